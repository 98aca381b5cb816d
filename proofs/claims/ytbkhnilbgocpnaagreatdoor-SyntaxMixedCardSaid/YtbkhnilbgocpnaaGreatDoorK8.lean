import Derived.Test.YtbkhnilbgocpnaaGreatDoorK0
import Derived.Test.YtbkhnilbgocpnaaGreatDoorK7
import Derived.Test.YtbkhnilbgocpnaaGreatDoorK4
set_option linter.unusedVariables false
set_option linter.unusedSimpArgs false
set_option maxRecDepth 100000
set_option maxHeartbeats 2000000
open Go.Lib (hid)
namespace Go.Proofs.YtbkhnilbgocpnaaGreatDoor.SynC
open Go.Proofs.YtbkhnilbgocpnaaGreatDoor.LexC
open Go Go.ChangeShapes Go.WideShapes Go.ChangeAt Go.RowKit Go.Deep
theorem adv_St {E:Env} {i j:Nat} {s:St} (hj:j≤E.L.length) (h:stmtR (E.ks.drop i)=.ok s (E.ks.drop j)):i<j:=by
 refine adv_of hj ?_
 cases e:E.ks.drop i with
 | nil=>rw [e,stmt_nil] at h; cases h
 | cons t r =>
  rw [e,stmt_eq] at h
  have:=stmtP_len PR_len t r _ _ h
  simp only [List.length_cons]; omega
theorem more_any {E:Env} (hE:E.Ok) (w:World) (i q:Nat) (hq:w.heap[q]? = some (.cells #[.pointer (some ⟨E.b,0,none⟩)] 79 (0,0))) (hp0:Ps E w i) :
  Calls Tryz.prog 173 #[.pointer (some ⟨q,0,none⟩)] w fun e w'=>w.grownBy w' (some E.b) ∧
   ((hit [125] (E.ks.drop i)=true∧e=.returned (.bool false)∧Ps E w' (i+1))∨(hit [125] (E.ks.drop i)=false∧e=.returned (.bool true)∧Ps E w' i)):=by
 have hc:w.cell? ⟨q,0,none⟩=some (.pointer (some ⟨E.b,0,none⟩)):=by rw [cell_of_row _ _ 0 _ _ _ hq]; rfl
 clear hq
 go_enter Tryz.func173,Tryz.ntmps173
 go_wp2_with fail
 refine (u1u hE _ _ hp0 [125] (by decide)).mono ?_
 rintro e w1 ⟨hg1,⟨hh,rfl,hp1⟩ | ⟨hh,rfl,hp1⟩⟩
 all_goals (have HH:=hid hh; clear hh)
 ·go_wp2
  go_ret
  exact ⟨hg1,.inl ⟨HH.out,rfl,hp1⟩⟩
 ·go_wp2
  go_ret
  exact ⟨hg1,.inr ⟨HH.out,rfl,hp1⟩⟩
theorem info136:(Tryz.prog.info? 136).map (fun i=>(i.zero,i.size,i.bytes))=some (some (.agg #[.int .i64 0,.int .i64 0,.string ⟨#[]⟩,.slice none 0 0,.slice none 0 0,.slice none 0 0]),6,104):=by kernel_rfl
theorem SlS.form {w:World} {P:Nat→Prop} {v:Value} {l:List St} (h:SlS w P v l):∃ A m c,v=.slice A m c:=by
 rcases h with ⟨h,_⟩ | ⟨x,c,h,_⟩
 ·exact ⟨_,_,_,h⟩
 ·exact ⟨_,_,_,h⟩
theorem PR_go {E:Env} {j k:Nat} {s:St} (h:hit [125] (E.ks.drop j)=false) (hs:stmtR (E.ks.drop j)=.ok s (E.ks.drop k)):PR (E.ks.drop j)=(PR (E.ks.drop k)).bind fun ss q2=>.ok (s :: ss) q2:=by
 rw [PR_step,h,hs]; rfl
theorem repS_any {E:Env} (hE:E.Ok) (w:World) (i q:Nat) (hB:∀ j,i<j→BodyC E j) (hq0:w.heap[q]? = some (.cells #[.pointer (some ⟨E.b,0,none⟩)] 79 (0,0))) (hqb:q≠E.b) (hp0:Ps E w i) :
  Calls Tryz.prog 172 #[.func (.func 173) #[] #[.pointer (some ⟨q,0,none⟩)],.func (.func 174) #[.pointer (some ⟨E.b,0,none⟩)] #[]] w (Fin E w (PR (E.ks.drop i)) (SsV w.heap.size)):=by
 have HB:=hid hB
 have hsz:=hp0.sz
 have hlt:=hE.lt
 have hlen:=hE.len
 have hql:q<w.heap.size:=(Array.getElem?_eq_some_iff.1 hq0).1
 clear hB
 go_enter Tryz.func172,Tryz.ntmps172
 go_wp2_with fail
 go_loopw [5] (fun v wr=>∃ (j:Nat) (L:List St),i≤j∧L.length≤j∧w.grownBy wr (some E.b)∧Ps E wr j∧PR (E.ks.drop i)=(PR (E.ks.drop j)).bind (fun ss r=>.ok (L++ss) r)∧OwnL rdS 136 6 wr w.heap.size v L∧wr.heap[q]? = some (.cells #[.pointer (some ⟨E.b,0,none⟩)] 79 (0,0))) (fun _ wr=>E.L.length - nextOf E wr)
 case atStart=>exact ⟨i,[],Nat.le_refl _,by simp,tGB,hp0,by simp only [List.nil_append]; exact (bind_id _).symm,OwnL.nil _ _,hq0⟩
 case round =>
  obtain ⟨j,L,hij,hkl,hgr,hp,hI,hown,hq⟩:=hrel
  have HI:=hid hI
  have HO:=hid hown
  have hz0:=hgr.size
  have hjl:=hp.hi
  clear hI hown
  go_wp2_with fail
  refine (more_any hE _ j q hq hp).mono ?_
  rintro e w1 ⟨hg1,⟨hh,rfl,hp1⟩ | ⟨hh,rfl,hp1⟩⟩
  all_goals (have HH:=hid hh; clear hh; have hz1:=hg1.size)
  ·have hS:=(HO.out.keep rdS_ok hg1 (by omega)).slS
   obtain ⟨A,m,c,hv⟩:=hS.form
   subst hv
   go_wp2
   go_ret
   exact ⟨tGB,.inl ⟨L,j+1,_,by rw [HI.out,PR_step,HH.out,if_pos rfl,drop_one]; simp only [Res.bind,List.append_nil],hp1,rfl,⟨A,m,c,rfl,hS⟩⟩⟩
  ·have hq1:=(hg1.block q (by omega) (by simpa using hqb)).trans hq
   go_wp2_with fail
   refine (statement_any hE _ j (fun k hk=>HB.out k (by omega)) (hp1.keepB hE tBEL)).mono ?_
   rintro e w3 ⟨hg3,⟨s,j3,v3,hR,hp3,rfl,⟨sk,so,sx,A,m,c,B,m1,c1,C,m2,c2,rfl,ha⟩⟩ | ⟨j3,hR,hp3,rfl⟩⟩
   all_goals (have HR3:=hid hR; clear hR; have hz3:=hg3.size)
   rotate_left 1
   ·go_wp2
    exact ⟨rfl,tGB,.inr ⟨j3,by rw [HI.out,PR_step,HH.out,HR3.out]; rfl,hp3,rfl⟩⟩
   have hj3:=adv_St hp3.hi HR3.out
   have HA:=hid ha
   have hq3:=(hg3.block q (by omega) (by simpa using hqb)).trans hq1
   clear ha
   go_wp2_with (refine u2o rdS_ok rfl _ _ 69 rfl _ 104 info136 Tryz.underlying69 rfl (by decide) (by decide) w.heap.size _ L rfl ((((HO.out.keep rdS_ok hg1 (by omega)).keep rdS_ok hg3 (by omega)).alloc rdS_ok (by omega) _).alloc rdS_ok (by omega) _) (w3.heap.size+1) rfl #[.int .i64 sk,.int .i64 so,.string (bs sx),.slice A m c,.slice B m1 c1,.slice C m2 c2] (0,0) (u0h (by rw [u0c])) rfl (by intro u hu; simp at hu; rcases hu with rfl | rfl | rfl | rfl | rfl | rfl <;> rfl) s w1.heap.size (u7y HA.out tKP tSZ tSZ) (by omega) (fun g hg=>by have:=(HO.out.lt g hg).2; omega) (by omega) tSZ ?_; intro v' w4 hown4 hg4 hwh4; have HO4:=hid hown4; clear hown4)
   have hz4:=hg4.size
   (try simp only [u0c,u0i,u0p] at hz4)
   have hown0:=fun g hg=>(HO.out.lt g hg).1
   have gw4:w.grownBy w4 (some E.b):=gb_own tGB hg4 hown0
   have hp4:Ps E w4 j3:=hp3.keepB hE (Below.grown tBEL hg4 tSZ (fun k hk=>by have:=hown0 k hk; omega))
   have hq4:w4.heap[q]? = some (.cells #[.pointer (some ⟨E.b,0,none⟩)] 79 (0,0)):=by
    rw [hg4.block q tSZ (fun e=>by have:=hown0 q e.symm; omega)]
    exact tLOC
   go_roundw
   case rel =>
    refine ⟨j3,L++[s],by omega,by simp; omega,gw4,hp4,?_,HO4.out,hq4⟩
    rw [HI.out,PR_go HH.out HR3.out,u1s]
    simp only [Res.bind,List.append_assoc,List.singleton_append]
   case measure =>
    rw [hp.nextOf,hp4.nextOf]
    have:=hp3.hi
    omega
theorem rest_any {E:Env} (hE:E.Ok) (w:World) (i:Nat) (hB:∀ j,i<j→BodyC E j) (hp0:Ps E w i) :
  Calls Tryz.prog 131 #[.pointer (some ⟨E.b,0,none⟩)] w (Fin E w (PR (E.ks.drop i)) (SsV w.heap.size)):=by
 have HB:=hid hB
 have hsz:=hp0.sz
 have hlt:=hE.lt
 clear hB
 have hmf:∀ (fn:Go.Fn) (first cap:Array Value) (w:World),(Instr.makeFunc fn first cap).run Tryz.prog w=.ok (.func fn first cap) w:=fun _ _ _ _=>rfl
 go_enter Tryz.func131,Tryz.ntmps131
 go_wp2_with fail
 refine (repS_any hE _ i w.heap.size HB.out tLOC (by omega) (hp0.keepB hE tBEL)).mono ?_
 rintro e w2 ⟨hg2,⟨a2,j2,v2,hR,hp2,rfl,⟨A,m,c,rfl,hs⟩⟩ | ⟨j2,hR,hp2,rfl⟩⟩
 all_goals (have HR2:=hid hR; clear hR; have hz:=hg2.size; (try simp only [u0c,u0i,u0p] at hz))
 ·go_wp2
  go_ret
  exact ⟨tGB,.inl ⟨a2,j2,_,HR2.out,hp2,rfl,⟨_,_,_,rfl,ss_keep hs tKP tSZ tSZ⟩⟩⟩
 ·go_wp2
  exact ⟨rfl,tGB,.inr ⟨j2,HR2.out,hp2,rfl⟩⟩
theorem rulesB {E:Env} (hE:E.Ok):∀ (m i:Nat),E.L.length - i<m→BodyC E i
 | 0,_,h=>absurd h (Nat.not_lt_zero _)
 | m+1,i,h=>fun w hp=>rest_any hE w i (fun j hj=>by
  by_cases hl:i<E.L.length
  ·exact rulesB hE m j (by omega)
  ·exact fun w hp=>absurd hp.hi (by omega)) hp
theorem body_all {E:Env} (hE:E.Ok) (i:Nat):BodyC E i:=rulesB hE _ i (Nat.lt_succ_self _)
def SlR {α:Type} (rd:Rd α) (sz:Nat) (P:Nat→Prop) (w:World) (v:Value) (L:List α):Prop:=(v=.slice none 0 0∧L=[])∨∃ x c,v=.slice (some x) L.length c∧(L≠[]→P x.block)∧RG rd sz P w x L
theorem RG.keeps {α:Type} {rd:Rd α} {sz:Nat} (ok:rd.Ok) {P Q:Nat→Prop} {w w':World} (k:u6u P w w') (hPQ:∀ b,P b→Q b):∀ (L:List α) (x:Addr),(L≠[]→P x.block)→RG rd sz P w x L→RG rd sz Q w' x L
 | [],_,_,_=>trivial
 | a :: L,x,hx,⟨⟨cs,h1,h2⟩,h3⟩=>⟨⟨cs,h1.keeps k (hx (by simp)),ok _ _ w w' cs a k hPQ h2⟩,RG.keeps ok k hPQ L _ (fun _=>by rw [u6t]; exact hx (by simp)) h3⟩
theorem SlR.keeps {α:Type} {rd:Rd α} {sz:Nat} (ok:rd.Ok) {P Q:Nat→Prop} {w w':World} (k:u6u P w w') (hPQ:∀ b,P b→Q b) {v:Value} {L:List α} (h:SlR rd sz P w v L):SlR rd sz Q w' v L:=by
 rcases h with h | ⟨x,c,hv,hx,hr⟩
 ·exact .inl h
 ·exact .inr ⟨x,c,hv,fun hn=>hPQ _ (hx hn),RG.keeps ok k hPQ L x hx hr⟩
theorem SlR.form {α:Type} {rd:Rd α} {sz:Nat} {P:Nat→Prop} {w:World} {v:Value} {L:List α} (h:SlR rd sz P w v L):∃ A m c,v=.slice A m c:=by
 rcases h with ⟨h,_⟩ | ⟨x,c,h,_⟩
 ·exact ⟨_,_,_,h⟩
 ·exact ⟨_,_,_,h⟩
theorem OwnL.slR {α:Type} {rd:Rd α} {T sz:Nat} (ok:rd.Ok) {w:World} {base:Nat} {v:Value} {L:List α} (h:OwnL rd T sz w base v L):SlR rd sz (fun g=>base≤g∧g<w.heap.size) w v L:=(h.rows ok).imp id fun ⟨x,c,hv,hx,hr⟩=>⟨x,c,hv,fun _=>hx,hr⟩
theorem sr_nil {α:Type} {rd:Rd α} {sz h:Nat} {w:World}:SlR rd sz (fun g=>h≤g∧g<w.heap.size) w (.slice none 0 0) []:=.inl ⟨rfl,rfl⟩
theorem sr_keep {α:Type} {rd:Rd α} {sz:Nat} (ok:rd.Ok) {h h':Nat} {w w':World} {v:Value} {l:List α} (hs:SlR rd sz (fun g=>h≤g∧g<w.heap.size) w v l) (k:Kp h w w') (hh:h'≤h) (hz:w.heap.size≤w'.heap.size) :
  SlR rd sz (fun g=>h'≤g∧g<w'.heap.size) w' v l :=
 hs.keeps ok (fun p u hp hu=>k p u hp.1 hu) (fun _ hb=>⟨Nat.le_trans hh hb.1,Nat.lt_of_lt_of_le hb.2 hz⟩)
def SrV {α:Type} (rd:Rd α) (sz h:Nat) (w:World) (v:Value) (l:List α):Prop:=∃ A m c,v=.slice A m c∧SlR rd sz (fun g=>h≤g∧g<w.heap.size) w (.slice A m c) l
def rdN:Rd (List UInt8):=fun _ _ r a=>r=[.string (bs a)]
theorem u4a:rdN.Ok:=fun _ _ _ _ _ _ _ _ h=>h
def rdP:Rd (List UInt8 × Bool):=fun _ _ r a=>r=[.string (bs a.1),.bool a.2]
theorem u3d:rdP.Ok:=fun _ _ _ _ _ _ _ _ h=>h
def rdA:Rd (List UInt8 × Int):=fun _ _ r a=>r=[.string (bs a.1),.int .i64 a.2]
theorem u4g:rdA.Ok:=fun _ _ _ _ _ _ _ _ h=>h
def rdF:Rd Fn:=fun P w r f=>∃ A m c B m' c',r=[.string (bs f.name),.slice A m c,.slice B m' c']∧SlR rdN 1 P w (.slice A m c) f.params∧SlS w P (.slice B m' c') f.body
theorem u2l:rdF.Ok:=fun _ _ _ _ _ _ k h ⟨A,m,c,B,m',c',h1,h2,h3⟩=>⟨A,m,c,B,m',c',h1,h2.keeps u4a k h,h3.keeps k h⟩
def rdK:Rd Kr:=fun P w r f=>∃ A m c B m' c' C m'' c'',r=[.string (bs f.name),.slice A m c,.slice B m' c',.slice C m'' c'']∧SlR rdP 2 P w (.slice A m c) f.params∧SlR rdA 2 P w (.slice B m' c') f.shared∧SlS w P (.slice C m'' c'') f.body
theorem u2x:rdK.Ok:=fun _ _ _ _ _ _ k h ⟨A,m,c,B,m',c',C,m'',c'',h1,h2,h3,h4⟩=>⟨A,m,c,B,m',c',C,m'',c'',h1,h2.keeps u3d k h,h3.keeps u4g k h,h4.keeps k h⟩
def RPg (w:World) (P:Nat→Prop) (cs:List Value) (p:Pg):Prop:=∃ A m c B m' c',cs=[.slice A m c,.slice B m' c']∧SlR rdF 3 P w (.slice A m c) p.fns∧SlR rdK 4 P w (.slice B m' c') p.krs
theorem RPg.keeps {P Q:Nat→Prop} {w w':World} (k:u6u P w w') (hPQ:∀ b,P b→Q b) {cs:List Value} {p:Pg}:RPg w P cs p→RPg w' Q cs p :=
 fun ⟨A,m,c,B,m',c',h1,h2,h3⟩=>⟨A,m,c,B,m',c',h1,h2.keeps u2l k hPQ,h3.keeps u2x k hPQ⟩
theorem info9:(Tryz.prog.info? 9).map (fun i=>(i.zero,i.size,i.bytes))=some (some (.string ⟨#[]⟩),1,16):=by kernel_rfl
theorem info92:(Tryz.prog.info? 92).map (fun i=>(i.zero,i.size,i.bytes))=some (some (.agg #[.string ⟨#[]⟩,.bool false]),2,24):=by kernel_rfl
theorem info94:(Tryz.prog.info? 94).map (fun i=>(i.zero,i.size,i.bytes))=some (some (.agg #[.string ⟨#[]⟩,.int .i64 0]),2,24):=by kernel_rfl
theorem info71:(Tryz.prog.info? 71).map (fun i=>(i.zero,i.size,i.bytes))=some (some (.agg #[.string ⟨#[]⟩,.slice none 0 0,.slice none 0 0]),3,64):=by kernel_rfl
theorem info75:(Tryz.prog.info? 75).map (fun i=>(i.zero,i.size,i.bytes))=some (some (.agg #[.string ⟨#[]⟩,.slice none 0 0,.slice none 0 0,.slice none 0 0]),4,88):=by kernel_rfl
def VPar (_:World) (v:Value) (a:List UInt8 × Bool):Prop:=v=.agg #[.string (bs a.1),.bool a.2]
def VArr (_:World) (v:Value) (a:List UInt8 × Int):Prop:=v=.agg #[.string (bs a.1),.int .i64 a.2]
def VTI (_:World) (v:Value) (n:Int):Prop:=∃ (k p:Int) (x:List UInt8),v=.agg #[.int .i64 k,.int .i64 p,.string (bs x),.int .i32 n]∧(-2147483648≤n∧n≤2147483647)
theorem takeI {E:Env} (hE:E.Ok) (w:World) (i:Nat) (hp0:Ps E w i):Calls Tryz.prog 74 #[.pointer (some ⟨E.b,0,none⟩),.int .i64 1] w (Fin E w (needI' (E.ks.drop i)) VTI):=by
 obtain ⟨t,ht⟩:=Env.at_ hp0.hi
 refine (takeK hE w i hp0 1 (by decide) t ht).mono fun e w' ⟨hg,hr⟩=>⟨hg,?_⟩
 rcases hr with ⟨hk,hl,he,hp⟩ | ⟨hk,he,hp⟩
 ·rcases Env.next_ hp0.hi with ⟨_,u,hu,hm,hd⟩ | ⟨h,_⟩
  ·rw [hu] at ht; cases ht
   exact .inl ⟨t.num,i+1,_,by rw [hd]; unfold needI' needI; simp [key,hk],hp,he,⟨t.kind,t.pos,t.text,rfl,(hE.wf t hm).2.2.2.2⟩⟩
  ·omega
 ·refine .inr ⟨i,?_,hp,he⟩
  rcases Env.next_ hp0.hi with ⟨_,u,hu,hm,hd⟩ | ⟨_,_,hd⟩
  ·rw [hu] at ht; cases ht
   rw [hd]; unfold needI' needI; simp [key,hk]
  ·rw [hd]; rfl
theorem adv_I {E:Env} {i j:Nat} {x:Int} (hj:j≤E.L.length) (h:needI' (E.ks.drop i)=.ok x (E.ks.drop j)):i<j:=adv_of hj (lenI h)
theorem adv_O {α:Type} {one:List K→Res α} (ho:LenO one) {E:Env} {i j:Nat} {x:α} (hj:j≤E.L.length) (h:one (E.ks.drop i)=.ok x (E.ks.drop j)):i<j:=by
 have:=ho _ _ _ h
 exact adv_of hj (by omega)
theorem listO_len {α:Type} {one:List K→Res α} (h0:one []=.no []) (ho:LenO one):LenO (listO one):=fun l a r h=>listP_len ho l a r (by rw [list_eq h0]; exact h)
theorem adv_LN {E:Env} {i j:Nat} {x:List (List UInt8)} (hj:j≤E.L.length) (h:listO nameO (E.ks.drop i)=.ok x (E.ks.drop j)):i<j:=adv_O (listO_len (one:=nameO) rfl u6o) hj h
theorem adv_LP {E:Env} {i j:Nat} {x:List (List UInt8 × Bool)} (hj:j≤E.L.length) (h:listO u4h (E.ks.drop i)=.ok x (E.ks.drop j)):i<j:=adv_O (listO_len (one:=u4h) rfl u5m) hj h
theorem moreR_end {α:Type} {one:List K→Res α} (ho:LenO one) {E:Env} {j:Nat} (h:hit [41] (E.ks.drop j)=true):moreR one (E.ks.drop j)=.ok [] (E.ks.drop (j+1)):=by
 have h2:hit [44] (E.ks.drop j)=false:=by obtain ⟨n,hd⟩:=u4p h; rw [hd]; rfl
 rw [moreR_step ho,h2,h,drop_one]; rfl
theorem moreR_more {α:Type} {one:List K→Res α} (ho:LenO one) {E:Env} {j:Nat} (h:hit [44] (E.ks.drop j)=true):moreR one (E.ks.drop j)=u7o one (E.ks.drop (j+1)):=by
 rw [moreR_step ho,h,drop_one]; rfl
theorem moreR_no {α:Type} {one:List K→Res α} (ho:LenO one) {l:List K} (h:hit [41] l=false) (h2:hit [44] l=false):moreR one l=.no l:=by
 rw [moreR_step ho,h2,h]; rfl
theorem hit_of_ok {E:Env} {j k:Nat} {s:List UInt8} {u:Unit} (hj:j≤E.L.length) (h:u3j s (E.ks.drop j)=.ok u (E.ks.drop k)):hit s (E.ks.drop j)=true∧E.ks.drop k=E.ks.drop (j+1):=by
 cases hh:hit s (E.ks.drop j) with
 | true=>rw [u6n hh] at h; injection h with _ h; exact ⟨rfl,h.symm⟩
 | false=>rw [needS_no hj hh] at h; cases h
theorem hit_of_no {E:Env} {j k:Nat} {s:List UInt8} (hj:j≤E.L.length) (h:u3j s (E.ks.drop j)=.no (E.ks.drop k)):hit s (E.ks.drop j)=false∧E.ks.drop k=E.ks.drop j:=by
 cases hh:hit s (E.ks.drop j) with
 | true=>rw [u6n hh] at h; cases h
 | false=>rw [needS_no hj hh] at h; injection h with h; exact ⟨rfl,h.symm⟩
theorem param_any {E:Env} (hE:E.Ok) (w:World) (i:Nat) (hp0:Ps E w i) :
  Calls Tryz.prog 127 #[.pointer (some ⟨E.b,0,none⟩)] w (Fin E w (u4h (E.ks.drop i)) VPar):=by
 have hsz:=hp0.sz
 have hlt:=hE.lt
 have HE:=hid (par_eq (E.ks.drop i))
 go_enter Tryz.func127,Tryz.ntmps127
 go_wp2_with fail
 refine (u1u hE _ _ (hp0.keepB hE tBEL) wBuffer (by decide)).mono ?_
 rintro e w1 ⟨hg1,⟨hh,rfl,hp1⟩ | ⟨hh,rfl,hp1⟩⟩
 all_goals (have HH1:=hid hh; clear hh; have hz:=hg1.size; (try simp only [u0c,u0i,u0p] at hz); have hl:=u0a (q:=w.heap.size) hg1 tLOC tSZ; obtain ⟨_,_,_,_⟩:=hl)
 ·have HD:=hid (show u4h (E.ks.drop i)=(needN' (E.ks.drop (i+1))).bind fun x q=>.ok (x,true) q by rw [HE.out]; simp only [parR,HH1.out,if_true,drop_one])
  go_wp2_with fail
  refine (name_any hE _ _ (hp1.keepB hE tBEL)).mono ?_
  rintro e w2 ⟨hg2,⟨a2,j2,v2,hR,hp2,rfl,rfl⟩ | ⟨j2,hR,hp2,rfl⟩⟩
  all_goals (have HR2:=hid hR; clear hR; have hz:=hg2.size; (try simp only [u0c,u0i,u0p] at hz))
  all_goals (have hl:=u0a (q:=w.heap.size) hg2 tLOX tSZ; obtain ⟨_,_,_,_⟩:=hl)
  rotate_left 1
  ·go_wp2
   exact ⟨rfl,tGB,.inr ⟨j2,by simp only [HD.out,HR2.out,Res.bind,u0s,u0w],hp2,rfl⟩⟩
  have hj2:=adv_N hp2.hi HR2.out
  go_wp2
  refine ret_pm rfl rfl rfl tRES ?_
  exact ⟨tGB,.inl ⟨(a2,true),j2,_,by simp only [HD.out,HR2.out,Res.bind,u0s,u0w],hp2.keepB hE tBEL,rfl,rfl⟩⟩
 ·have HD:=hid (show u4h (E.ks.drop i)=(u3j wInt (E.ks.drop i)).bind fun _ r=>(needN' r).bind fun x q=>.ok (x,false) q by rw [HE.out]; simp only [parR,HH1.out,Bool.false_eq_true,if_false])
  go_wp2_with fail
  refine (u1o hE _ _ (hp1.keepB hE tBEL) wInt (by decide)).mono ?_
  rintro e w2 ⟨hg2,⟨a2,j2,v2,hR,hp2,rfl,rfl⟩ | ⟨j2,hR,hp2,rfl⟩⟩
  all_goals (have HR2:=hid hR; clear hR; have hz:=hg2.size; (try simp only [u0c,u0i,u0p] at hz))
  all_goals (have hl:=u0a (q:=w.heap.size) hg2 tLOX tSZ; obtain ⟨_,_,_,_⟩:=hl)
  rotate_left 1
  ·go_wp2
   exact ⟨rfl,tGB,.inr ⟨j2,by simp only [HD.out,HR2.out,Res.bind,u0s,u0w],hp2,rfl⟩⟩
  have hj2:=u6h hp2.hi HR2.out
  go_wp2_with fail
  refine (name_any hE _ _ (hp2.keepB hE tBEL)).mono ?_
  rintro e w3 ⟨hg3,⟨a3,j3,v3,hR,hp3,rfl,rfl⟩ | ⟨j3,hR,hp3,rfl⟩⟩
  all_goals (have HR3:=hid hR; clear hR; have hz:=hg3.size; (try simp only [u0c,u0i,u0p] at hz))
  all_goals (have hl:=u0a (q:=w.heap.size) hg3 tLOX tSZ; obtain ⟨_,_,_,_⟩:=hl)
  rotate_left 1
  ·go_wp2
   exact ⟨rfl,tGB,.inr ⟨j3,by simp only [HD.out,HR2.out,HR3.out,Res.bind,u0s,u0w],hp3,rfl⟩⟩
  have hj3:=adv_N hp3.hi HR3.out
  go_wp2
  refine ret_pm rfl rfl rfl tRES ?_
  exact ⟨tGB,.inl ⟨(a3,false),j3,_,by simp only [HD.out,HR2.out,HR3.out,Res.bind,u0s,u0w],hp3.keepB hE tBEL,rfl,rfl⟩⟩
theorem array_any {E:Env} (hE:E.Ok) (w:World) (i:Nat) (hp0:Ps E w i) :
  Calls Tryz.prog 130 #[.pointer (some ⟨E.b,0,none⟩)] w (Fin E w (arrR (E.ks.drop i)) VArr):=by
 have hsz:=hp0.sz
 have hlt:=hE.lt
 have hi0:=hp0.hi
 have q3:=fld3
 go_enter Tryz.func130,Tryz.ntmps130
 go_wp2_with fail
 refine (u1o hE _ _ (hp0.keepB hE tBEL) u3o (by decide)).mono ?_
 rintro e w1 ⟨hg1,⟨a1,j1,v1,hR,hp1,rfl,rfl⟩ | ⟨j1,hR,hp1,rfl⟩⟩
 all_goals (have HR1:=hid hR; clear hR; have hz:=hg1.size; (try simp only [u0c,u0i,u0p] at hz))
 all_goals (have hl:=u0a (q:=w.heap.size) hg1 tLOX tSZ; obtain ⟨_,_,_,_⟩:=hl)
 rotate_left 1
 ·go_wp2
  exact ⟨rfl,tGB,.inr ⟨j1,by simp only [arrR,HR1.out,Res.bind,u0s,u0w],hp1,rfl⟩⟩
 have hj1:=u6h hp1.hi HR1.out
 go_wp2_with fail
 refine (name_any hE _ _ (hp1.keepB hE tBEL)).mono ?_
 rintro e w2 ⟨hg2,⟨a2,j2,v2,hR,hp2,rfl,rfl⟩ | ⟨j2,hR,hp2,rfl⟩⟩
 all_goals (have HR2:=hid hR; clear hR; have hz:=hg2.size; (try simp only [u0c,u0i,u0p] at hz))
 all_goals (have hl:=u0a (q:=w.heap.size) hg2 tLOX tSZ; obtain ⟨_,_,_,_⟩:=hl)
 rotate_left 1
 ·go_wp2
  exact ⟨rfl,tGB,.inr ⟨j2,by simp only [arrR,HR1.out,HR2.out,Res.bind,u0s,u0w],hp2,rfl⟩⟩
 have hj2:=adv_N hp2.hi HR2.out
 go_wp2_with fail
 refine (u1o hE _ _ (hp2.keepB hE tBEL) [91] (by decide)).mono ?_
 rintro e w3 ⟨hg3,⟨a3,j3,v3,hR,hp3,rfl,rfl⟩ | ⟨j3,hR,hp3,rfl⟩⟩
 all_goals (have HR3:=hid hR; clear hR; have hz:=hg3.size; (try simp only [u0c,u0i,u0p] at hz))
 all_goals (have hl:=u0a (q:=w.heap.size) hg3 tLOX tSZ; obtain ⟨_,_,_,_⟩:=hl)
 rotate_left 1
 ·go_wp2
  exact ⟨rfl,tGB,.inr ⟨j3,by simp only [arrR,HR1.out,HR2.out,HR3.out,Res.bind,u0s,u0w],hp3,rfl⟩⟩
 have hj3:=u6h hp3.hi HR3.out
 go_wp2_with fail
 refine (takeI hE _ _ (hp3.keepB hE tBEL)).mono ?_
 rintro e w4 ⟨hg4,⟨a4,j4,v4,hR,hp4,rfl,⟨tk,tp,tx,rfl,hn⟩⟩ | ⟨j4,hR,hp4,rfl⟩⟩
 all_goals (have HR4:=hid hR; clear hR; have hz:=hg4.size; (try simp only [u0c,u0i,u0p] at hz))
 all_goals (have hl:=u0a (q:=w.heap.size) hg4 tLOX tSZ; obtain ⟨_,_,_,_⟩:=hl)
 rotate_left 1
 ·go_wp2
  exact ⟨rfl,tGB,.inr ⟨j4,by simp only [arrR,HR1.out,HR2.out,HR3.out,HR4.out,Res.bind,u0s,u0w],hp4,rfl⟩⟩
 have hj4:=adv_I hp4.hi HR4.out
 go_wp2_with fail
 refine (u1o hE _ _ (hp4.keepB hE tBEL) [93] (by decide)).mono ?_
 rintro e w5 ⟨hg5,⟨a5,j5,v5,hR,hp5,rfl,rfl⟩ | ⟨j5,hR,hp5,rfl⟩⟩
 all_goals (have HR5:=hid hR; clear hR; have hz:=hg5.size; (try simp only [u0c,u0i,u0p] at hz))
 all_goals (have hl:=u0a (q:=w.heap.size) hg5 tLOX tSZ; obtain ⟨_,_,_,_⟩:=hl)
 rotate_left 1
 ·go_wp2
  exact ⟨rfl,tGB,.inr ⟨j5,by simp only [arrR,HR1.out,HR2.out,HR3.out,HR4.out,HR5.out,Res.bind,u0s,u0w],hp5,rfl⟩⟩
 have hj5:=u6h hp5.hi HR5.out
 go_wp2_with fail
 refine (u1o hE _ _ (hp5.keepB hE tBEL) [59] (by decide)).mono ?_
 rintro e w6 ⟨hg6,⟨a6,j6,v6,hR,hp6,rfl,rfl⟩ | ⟨j6,hR,hp6,rfl⟩⟩
 all_goals (have HR6:=hid hR; clear hR; have hz:=hg6.size; (try simp only [u0c,u0i,u0p] at hz))
 all_goals (have hl:=u0a (q:=w.heap.size) hg6 tLOX tSZ; obtain ⟨_,_,_,_⟩:=hl)
 rotate_left 1
 ·go_wp2
  exact ⟨rfl,tGB,.inr ⟨j6,by simp only [arrR,HR1.out,HR2.out,HR3.out,HR4.out,HR5.out,HR6.out,Res.bind,u0s,u0w],hp6,rfl⟩⟩
 have hj6:=u6h hp6.hi HR6.out
 go_wp2
 refine ret_ar rfl rfl rfl tRES ?_
 exact ⟨tGB,.inl ⟨(a2,a4),j6,_,by simp only [arrR,HR1.out,HR2.out,HR3.out,HR4.out,HR5.out,HR6.out,Res.bind,u0s,u0w],hp6.keepB hE tBEL,rfl,rfl⟩⟩
theorem listN_any {E:Env} (hE:E.Ok) (w:World) (i:Nat) (hp0:Ps E w i) :
  Calls Tryz.prog 124 #[.pointer (some ⟨E.b,0,none⟩),.func (.func 123) #[.pointer (some ⟨E.b,0,none⟩)] #[]] w (Fin E w (listO nameO (E.ks.drop i)) (SrV rdN 1 w.heap.size)):=by
 have hsz:=hp0.sz
 have hlt:=hE.lt
 have hb10:=hE.b10
 have hlen:=hE.len
 go_enter Tryz.func124,Tryz.ntmps124
 go_wp2_with fail
 refine (u1o hE _ _ (hp0.keepB hE tBEL) [40] (by decide)).mono ?_
 rintro e w1 ⟨hg1,⟨u,j1,v,hR,hp1,rfl,rfl⟩ | ⟨j1,hR,hp1,rfl⟩⟩
 all_goals (have HR1:=hid hR; clear hR; have hz1:=hg1.size)
 rotate_left 1
 ·go_wp2
  exact ⟨rfl,tGB,.inr ⟨j1,by unfold listO; rw [HR1.out]; rfl,hp1,rfl⟩⟩
 have hj1:=u6h hp1.hi HR1.out
 go_wp2_with fail
 refine (u1u hE _ _ (hp1.keepB hE tBEL) [41] (by decide)).mono ?_
 rintro e w2 ⟨hg2,⟨hh,rfl,hp2⟩ | ⟨hh,rfl,hp2⟩⟩
 all_goals (have HH:=hid hh; clear hh; have hz2:=hg2.size)
 ·go_wp2
  go_ret
  exact ⟨tGB,.inl ⟨[],j1+1,_,by unfold listO; rw [HR1.out]; simp only [Res.bind,HH.out,if_true,drop_one],hp2,rfl,⟨none,0,0,rfl,sr_nil⟩⟩⟩
 go_wp2_with fail
 go_loopw [5] (fun v wr=>∃ (j:Nat) (L:List (List UInt8)),i<j∧L.length≤j∧w.grownBy wr (some E.b)∧Ps E wr j∧listO nameO (E.ks.drop i)=(u7o nameO (E.ks.drop j)).bind (fun ss r=>.ok (L++ss) r)∧OwnL rdN 9 1 wr w.heap.size v L) (fun _ wr=>E.L.length - nextOf E wr)
 case atStart=>exact ⟨j1,[],hj1,by simp,tGB,hp2,by unfold listO; rw [HR1.out]; simp only [Res.bind,HH.out,Bool.false_eq_true,if_false,List.nil_append]; exact (bind_id _).symm,OwnL.nil _ _⟩
 case round =>
  obtain ⟨j,L,hij,hkl,hgr,hp,hI,hown⟩:=hrel
  have HI:=hid hI
  have HO:=hid hown
  have hz0:=hgr.size
  have hjl:=hp.hi
  clear hI hown
  go_wp2_with fail
  refine (name_any hE _ _ (hp.keepB hE tBEL)).mono ?_
  rintro e w3 ⟨hg3,⟨a,j3,v3,hR,hp3,rfl,rfl⟩ | ⟨j3,hR,hp3,rfl⟩⟩
  all_goals (have HR3:=hid (show nameO (E.ks.drop j)=_ from hR); clear hR; have hz3:=hg3.size)
  rotate_left 1
  ·go_wp2
   exact ⟨rfl,tGB,.inr ⟨j3,by rw [HI.out]; unfold u7o; rw [HR3.out]; rfl,hp3,rfl⟩⟩
  have hj3:=adv_O u6o hp3.hi HR3.out
  go_wp2_with (refine u2o u4a rfl _ _ 68 rfl _ 16 info9 Tryz.underlying68 rfl (by decide) (by decide) w.heap.size _ L rfl ((HO.out.keep u4a hg3 (by omega)).alloc u4a (by omega) _) (w3.heap.size) rfl #[.string (bs a)] (0,0) (u0h rfl) rfl (by intro u hu; simp at hu; rcases hu with rfl <;> rfl) a wr.heap.size (show rdN _ _ _ _ from rfl) (by omega) (fun g hg=>(HO.out.lt g hg).2) (by omega) tSZ ?_; intro v' w4 hown4 hg4 _; have HO4:=hid hown4; clear hown4)
  have hz4:=hg4.size
  (try simp only [u0c,u0i,u0p] at hz4)
  have hown0:=fun g hg=>(HO.out.lt g hg).1
  have gw4:w.grownBy w4 (some E.b):=gb_own tGB hg4 hown0
  have hp4:Ps E w4 j3:=hp3.keepB hE (Below.grown tBEL hg4 tSZ (fun k hk=>by have:=hown0 k hk; omega))
  refine (u1u hE _ _ hp4 [41] (by decide)).mono ?_
  rintro e w5 ⟨hg5,⟨hh,rfl,hp5⟩ | ⟨hh,rfl,hp5⟩⟩
  all_goals (have HH5:=hid hh; clear hh; have hz5:=hg5.size)
  ·go_wp2
   have hS:=(HO4.out.keep u4a hg5 (by omega)).slR u4a
   obtain ⟨A,m,c,hv⟩:=hS.form
   subst hv
   go_ret
   refine ⟨tGB,.inl ⟨L++[a],j3+1,_,?_,hp5,rfl,⟨A,m,c,rfl,hS⟩⟩⟩
   rw [HI.out]; unfold u7o; rw [HR3.out]
   simp only [Res.bind,moreR_end u6o HH5.out]
  ·go_wp2_with fail
   refine (u1o hE _ _ hp5 [44] (by decide)).mono ?_
   rintro e w6 ⟨hg6,⟨u,j6,v,hR,hp6,rfl,rfl⟩ | ⟨j6,hR,hp6,rfl⟩⟩
   all_goals (have HR6:=hid hR; clear hR; have hz6:=hg6.size)
   ·have hj6:=u6h hp6.hi HR6.out
    go_wp2
    go_roundw
    case rel =>
     refine ⟨j6,L++[a],by omega,by simp; omega,tGB,hp6,?_,(HO4.out.keep u4a hg5 (by omega)).keep u4a hg6 (by omega)⟩
     obtain ⟨h44,hd⟩:=hit_of_ok hp5.hi HR6.out
     rw [HI.out,hd,← moreR_more u6o h44]
     unfold u7o; rw [HR3.out]
     simp only [Res.bind,List.append_assoc,List.singleton_append]
     cases moreR nameO (E.ks.drop j3) <;> rfl
    case measure =>
     rw [hp.nextOf,hp6.nextOf]
     have:=hp6.hi
     omega
   ·go_wp2
    refine ⟨rfl,tGB,.inr ⟨j6,?_,hp6,rfl⟩⟩
    obtain ⟨h44,hd⟩:=hit_of_no hp5.hi HR6.out
    rw [HI.out,hd]; unfold u7o; rw [HR3.out]
    simp only [Res.bind,moreR_no u6o HH5.out h44]
theorem listP_any {E:Env} (hE:E.Ok) (w:World) (i:Nat) (hp0:Ps E w i) :
  Calls Tryz.prog 126 #[.pointer (some ⟨E.b,0,none⟩),.func (.func 127) #[.pointer (some ⟨E.b,0,none⟩)] #[]] w (Fin E w (listO u4h (E.ks.drop i)) (SrV rdP 2 w.heap.size)):=by
 have hsz:=hp0.sz
 have hlt:=hE.lt
 have hb10:=hE.b10
 have hlen:=hE.len
 go_enter Tryz.func126,Tryz.ntmps126
 go_wp2_with fail
 refine (u1o hE _ _ (hp0.keepB hE tBEL) [40] (by decide)).mono ?_
 rintro e w1 ⟨hg1,⟨u,j1,v,hR,hp1,rfl,rfl⟩ | ⟨j1,hR,hp1,rfl⟩⟩
 all_goals (have HR1:=hid hR; clear hR; have hz1:=hg1.size)
 rotate_left 1
 ·go_wp2
  exact ⟨rfl,tGB,.inr ⟨j1,by unfold listO; rw [HR1.out]; rfl,hp1,rfl⟩⟩
 have hj1:=u6h hp1.hi HR1.out
 go_wp2_with fail
 refine (u1u hE _ _ (hp1.keepB hE tBEL) [41] (by decide)).mono ?_
 rintro e w2 ⟨hg2,⟨hh,rfl,hp2⟩ | ⟨hh,rfl,hp2⟩⟩
 all_goals (have HH:=hid hh; clear hh; have hz2:=hg2.size)
 ·go_wp2
  go_ret
  exact ⟨tGB,.inl ⟨[],j1+1,_,by unfold listO; rw [HR1.out]; simp only [Res.bind,HH.out,if_true,drop_one],hp2,rfl,⟨none,0,0,rfl,sr_nil⟩⟩⟩
 go_wp2_with fail
 go_loopw [5] (fun v wr=>∃ (j:Nat) (L:List (List UInt8 × Bool)),i<j∧L.length≤j∧w.grownBy wr (some E.b)∧Ps E wr j∧listO u4h (E.ks.drop i)=(u7o u4h (E.ks.drop j)).bind (fun ss r=>.ok (L++ss) r)∧OwnL rdP 92 2 wr w.heap.size v L) (fun _ wr=>E.L.length - nextOf E wr)
 case atStart=>exact ⟨j1,[],hj1,by simp,tGB,hp2,by unfold listO; rw [HR1.out]; simp only [Res.bind,HH.out,Bool.false_eq_true,if_false,List.nil_append]; exact (bind_id _).symm,OwnL.nil _ _⟩
 case round =>
  obtain ⟨j,L,hij,hkl,hgr,hp,hI,hown⟩:=hrel
  have HI:=hid hI
  have HO:=hid hown
  have hz0:=hgr.size
  have hjl:=hp.hi
  clear hI hown
  go_wp2_with fail
  refine (param_any hE _ _ (hp.keepB hE tBEL)).mono ?_
  rintro e w3 ⟨hg3,⟨a,j3,v3,hR,hp3,rfl,rfl⟩ | ⟨j3,hR,hp3,rfl⟩⟩
  all_goals (have HR3:=hid (show u4h (E.ks.drop j)=_ from hR); clear hR; have hz3:=hg3.size)
  rotate_left 1
  ·go_wp2
   exact ⟨rfl,tGB,.inr ⟨j3,by rw [HI.out]; unfold u7o; rw [HR3.out]; rfl,hp3,rfl⟩⟩
  have hj3:=adv_O u5m hp3.hi HR3.out
  go_wp2_with (refine u2o u3d rfl _ _ 72 rfl _ 24 info92 Tryz.underlying72 rfl (by decide) (by decide) w.heap.size _ L rfl (((HO.out.keep u3d hg3 (by omega)).alloc u3d (by omega) _).alloc u3d (by omega) _) (w3.heap.size+1) rfl #[.string (bs a.1),.bool a.2] (0,0) (u0h (by rw [u0c])) rfl (by intro u hu; simp at hu; rcases hu with rfl | rfl <;> rfl) a wr.heap.size (show rdP _ _ _ _ from rfl) (by omega) (fun g hg=>(HO.out.lt g hg).2) (by omega) tSZ ?_; intro v' w4 hown4 hg4 _; have HO4:=hid hown4; clear hown4)
  have hz4:=hg4.size
  (try simp only [u0c,u0i,u0p] at hz4)
  have hown0:=fun g hg=>(HO.out.lt g hg).1
  have gw4:w.grownBy w4 (some E.b):=gb_own tGB hg4 hown0
  have hp4:Ps E w4 j3:=hp3.keepB hE (Below.grown tBEL hg4 tSZ (fun k hk=>by have:=hown0 k hk; omega))
  refine (u1u hE _ _ hp4 [41] (by decide)).mono ?_
  rintro e w5 ⟨hg5,⟨hh,rfl,hp5⟩ | ⟨hh,rfl,hp5⟩⟩
  all_goals (have HH5:=hid hh; clear hh; have hz5:=hg5.size)
  ·go_wp2
   have hS:=(HO4.out.keep u3d hg5 (by omega)).slR u3d
   obtain ⟨A,m,c,hv⟩:=hS.form
   subst hv
   go_ret
   refine ⟨tGB,.inl ⟨L++[a],j3+1,_,?_,hp5,rfl,⟨A,m,c,rfl,hS⟩⟩⟩
   rw [HI.out]; unfold u7o; rw [HR3.out]
   simp only [Res.bind,moreR_end u5m HH5.out]
  ·go_wp2_with fail
   refine (u1o hE _ _ hp5 [44] (by decide)).mono ?_
   rintro e w6 ⟨hg6,⟨u,j6,v,hR,hp6,rfl,rfl⟩ | ⟨j6,hR,hp6,rfl⟩⟩
   all_goals (have HR6:=hid hR; clear hR; have hz6:=hg6.size)
   ·have hj6:=u6h hp6.hi HR6.out
    go_wp2
    go_roundw
    case rel =>
     refine ⟨j6,L++[a],by omega,by simp; omega,tGB,hp6,?_,(HO4.out.keep u3d hg5 (by omega)).keep u3d hg6 (by omega)⟩
     obtain ⟨h44,hd⟩:=hit_of_ok hp5.hi HR6.out
     rw [HI.out,hd,← moreR_more u5m h44]
     unfold u7o; rw [HR3.out]
     simp only [Res.bind,List.append_assoc,List.singleton_append]
     cases moreR u4h (E.ks.drop j3) <;> rfl
    case measure =>
     rw [hp.nextOf,hp6.nextOf]
     have:=hp6.hi
     omega
   ·go_wp2
    refine ⟨rfl,tGB,.inr ⟨j6,?_,hp6,rfl⟩⟩
    obtain ⟨h44,hd⟩:=hit_of_no hp5.hi HR6.out
    rw [HI.out,hd]; unfold u7o; rw [HR3.out]
    simp only [Res.bind,moreR_no u5m HH5.out h44]
end Go.Proofs.YtbkhnilbgocpnaaGreatDoor.SynC
