import Derived.Test.YtbkhnilbgocpnaaGreatDoorK0
import Derived.Test.YtbkhnilbgocpnaaGreatDoorK20
set_option linter.unusedVariables false
set_option linter.unusedSimpArgs false
set_option maxRecDepth 100000
set_option maxHeartbeats 2000000
open Go.Lib (hid)
namespace Go.Proofs.YtbkhnilbgocpnaaGreatDoor.SynC
open Go.Proofs.YtbkhnilbgocpnaaGreatDoor.LexC
open Go Go.ChangeShapes Go.WideShapes Go.ChangeAt Go.RowKit Go.Deep
def validE (a:Ex):Bool:=fitE u0o 0 1 a
def exprM (s:List UInt8):Ex × Int × Int :=
 let r:=u4l (Ex.mk 0 0 0 [] []) (PE (.ex 1)) s
 if r.2.2 == 0&&!validE r.1 then (Ex.mk 0 0 0 [] [],0,5) else r
def progM (s:List UInt8):Pg × Int × Int :=
 let r:=u4l (⟨[],[]⟩:Pg) progR s
 if r.2.2 == 0&&!u2s r.1 then (⟨[],[]⟩,0,5) else r
def wriE (a:Ex):List UInt8:=txt (tE dgL a)
def textE (a:Ex):List UInt8 × Int:=if validE a then (wriE a,0) else ([],1)
theorem fitE_room {a:Ex} (h:fitE u0o 0 1 a=true):(tE dgL a).length≤100000∧(txt (tE dgL a)).length≤1000000:=by
 unfold fitE at h
 simp only [Bool.and_eq_true,decide_eq_true_eq] at h
 have h1:=tE_len u0o a h.1.1
 have h2:=txt_len _ (sm_E a (by rw [← nm_eq]; exact h.1.1))
 exact ⟨by omega,by omega⟩
theorem mem_le_sum:∀ (l:List Nat) (x:Nat),x∈l→x≤l.sum
 | a :: l,x,h=>by
  rw [List.sum_cons]
  rcases List.mem_cons.1 h with rfl | h
  ·omega
  ·have:=mem_le_sum l x h; omega
theorem key_rg {l:List UInt8} {i:Nat} (h4:l.length≤4000):KRs ((sc l i).1.map key):=by
 intro k hk
 obtain ⟨t,ht,rfl⟩:=List.mem_map.1 hk
 obtain ⟨_,_,_,_,h1,h2⟩:=sc_wf (l:=l) (i:=i) t ht
 have h3:=scan_sum l.length l i
 have h5:t.text.length≤((scan l.length l i).1.map (·.text.length)).sum:=mem_le_sum _ _ (List.mem_map.2 ⟨t,ht,rfl⟩)
 refine ⟨?_,h1,?_⟩
 ·show t.text.length≤maxLen
  unfold maxLen; omega
 ·show t.num<2147483648
  omega
theorem key_len {l:List UInt8} {i:Nat} (h4:l.length≤4000):((sc l i).1.map key).length≤4000:=by
 have:=sc_count l i
 rw [List.length_map]; omega
theorem parseM_ok {α:Type} {zero:α} {one:List K→Res α} {s:List UInt8} {a:α} {i:Int} (h:(a,i,0)=u4l zero one s):s.length≤4000∧i=0∧(sc s 0).2=none∧whole (one ((sc s 0).1.map key))=.ok a []:=by
 unfold u4l at h
 split at h
 ·simp at h
 ·rename_i h4
  split at h
  ·simp at h
  ·rename_i hn
   unfold outM at h
   split at h
   ·rename_i b r hw
    simp only [Prod.mk.injEq] at h
    refine ⟨by omega,h.2.1,hn,?_⟩
    rw [hw,h.1]
    congr 1
    unfold whole at hw
    obtain ⟨c,q,_,e⟩:=u0q hw
    split at e
    ·cases e; rfl
    ·cases e
   ·simp at h
theorem whole_ok {α:Type} {R:Res α} {a:α} {r:List K} (h:whole R=.ok a r):R=.ok a []:=by
 unfold whole at h
 obtain ⟨c,q,h1,e⟩:=u0q h
 split at e
 ·rename_i hq
  cases e
  rw [h1]
  congr 1
  simpa using hq
 ·cases e
theorem exprP_rg {s:List UInt8} {a:Ex} {i:Int} (h:(a,i,0)=u4l (Ex.mk 0 0 0 [] []) (PE (.ex 1)) s):rgE a:=by
 obtain ⟨h4,_,_,hw⟩:=parseM_ok h
 have hl:=key_len (i:=0) h4
 exact PE_rg (key_rg h4) (by omega) (whole_ok hw)
theorem progP_rgs {s:List UInt8} {q:Pg} {i:Int} (h:(q,i,0)=u4l (⟨[],[]⟩:Pg) progR s):(∀ f∈q.fns,rgF f)∧(∀ f∈q.krs,rgK f)∧q.fns.length+q.krs.length≤4000:=by
 obtain ⟨h4,_,_,hw⟩:=parseM_ok h
 have hl:=key_len (i:=0) h4
 obtain ⟨is,r,h1,e⟩:=u0q (whole_ok hw)
 cases e
 obtain ⟨h2,h3⟩:=PP_rg (key_rg h4) (by omega) h1
 obtain ⟨g1,g2,g3⟩:=pg_rg h2
 exact ⟨g1,g2,by omega⟩
theorem zero_rg:rgE (Ex.mk 0 0 0 [] []):=rg0 _ _ _ (by omega)
theorem ret_x3 {fn:Func} {R:Ending→World→Prop} {a:Act} {W:World} {q s s' s2:Nat} {v0 v1 v2 v3 v4 x y:Value} {fr:Nat × Nat} (hr:fn.results=#[ResultVar.cell s 34,.tmp s',.tmp s2]) (hd:a.defers=[])
  (hs:a.tmps.getD s undef=.pointer (some ⟨q,0,none⟩)) (hs':a.tmps.getD s' undef=x) (hs2:a.tmps.getD s2 undef=y) (hq:W.heap[q]? = some (Obj.cells #[v0,v1,v2,v3,v4] 34 fr)) (h:R (.returned (.tuple #[.agg #[v0,v1,v2,v3,v4],x,y])) W):bodyPost Tryz.prog fn R Exit.ret a W:=by
 have c:∀ j,W.cell? ⟨q,j,none⟩=#[v0,v1,v2,v3,v4][j]?:=fun j=>cell_of_row _ _ j _ _ _ hq
 refine bodyPost_ret (v:=.tuple #[.agg #[v0,v1,v2,v3,v4],x,y]) ?_ hd h
 rw [Array.getD_eq_getD_getElem?] at hs hs' hs2
 simp [results,hr,go_sem,hs,hs',hs2,c]
theorem ret_p3 {fn:Func} {R:Ending→World→Prop} {a:Act} {W:World} {q s s' s2:Nat} {v0 v1 x y:Value} {fr:Nat × Nat} (hr:fn.results=#[ResultVar.cell s 26,.tmp s',.tmp s2]) (hd:a.defers=[])
  (hs:a.tmps.getD s undef=.pointer (some ⟨q,0,none⟩)) (hs':a.tmps.getD s' undef=x) (hs2:a.tmps.getD s2 undef=y) (hq:W.heap[q]? = some (Obj.cells #[v0,v1] 26 fr)) (h:R (.returned (.tuple #[.agg #[v0,v1],x,y])) W):bodyPost Tryz.prog fn R Exit.ret a W:=by
 have c:∀ j,W.cell? ⟨q,j,none⟩=#[v0,v1][j]?:=fun j=>cell_of_row _ _ j _ _ _ hq
 refine bodyPost_ret (v:=.tuple #[.agg #[v0,v1],x,y]) ?_ hd h
 rw [Array.getD_eq_getD_getElem?] at hs hs' hs2
 simp [results,hr,go_sem,hs,hs',hs2,c]
def ExprOut (s:ByteArray) (w:World) (e:Ending) (w':World):Prop:=Below w.heap.size w w'∧∃ v a i er,e=.returned (.tuple #[v,.int .i64 i,.int .i64 er])∧RxV w.heap.size w' v a∧rgE a∧(a,i,er)=exprM s.data.toList
theorem expr_18 (s:ByteArray) (hs:s.size≤maxLen) (w:World) (hG:Gl w):Calls Tryz.prog 18 #[.string s] w (ExprOut s w):=by
 have HG:=hid hG
 clear hG
 have hz10:=HG.out.z
 go_enter Tryz.func18,Tryz.ntmps18
 go_wp2_with fail
 refine (parseE_any s hs _ (HG.out.alloc _).glob (HG.out.alloc _).z).mono ?_
 rintro e w1 ⟨hb1,v,a,i,er,rfl,⟨ak,ao,an,ax,aA,am,ac,rfl,hre⟩,hM⟩
 obtain ⟨_,_,_,l0⟩:=u0a (q:=w.heap.size) (u0f hb1 (some 0)) tLOC (by omega)
 have HB1:=hid (seq (u1e _ _) hb1)
 have hz1:=hb1.size
 simp only [u0c] at hz1 hre
 have HRE:=hid hre
 have HM:=hid hM
 clear hb1 hre hM
 have hval:∀ w',rgE a→Below w1.heap.size w1 w'→Calls Tryz.prog 48 #[.agg #[.int .i64 ak,.int .i64 ao,.int .i32 an,.string (bs ax),.slice aA am ac]] w' fun e w2=>e=.returned (.bool (validE a))∧Below w'.heap.size w' w2:=fun w' hrg h =>
  u7v a w' _ _ _ _ _ _ _ (by have:=h.size; omega) (HG.out.bel (seq HB1.out h)).tabs.exs (RE.keeps (u0z h fun _ hb=>hb.2) (fun _ hb=>Nat.lt_of_lt_of_le hb.2 h.size) _ _ HRE.out) hrg
 have HVAL:=hid hval
 clear hval
 have hkeep:∀ w',Kp (w.heap.size+1) w1 w'→w1.heap.size≤w'.heap.size→RE w' (fun g=>w.heap.size≤g∧g<w'.heap.size) [.int .i64 ak,.int .i64 ao,.int .i32 an,.string (bs ax),.slice aA am ac] a:=fun w' k hz=>u3z HRE.out k (by omega) hz
 have HKEEP:=hid hkeep
 clear hkeep
 have HL0:=hid l0
 clear l0
 by_cases h0:er=0
 ·subst h0
  have hrg:=exprP_rg HM.out
  have HRG:=hid hrg
  cases hb:validE a
  ·have hx:exprM s.data.toList=(Ex.mk 0 0 0 [] [],0,5):=by unfold exprM; simp only; rw [← HM.out]; simp [hb]
   have HV:=hid (HVAL.out _ hrg (u1e w1 (.cells #[.int .i64 ak,.int .i64 ao,.int .i32 an,.string (bs ax),.slice aA am ac] 34)))
   rw [hb] at HV
   clear hrg hb
   go_wp2_with fail
   refine HV.out.mono ?_
   rintro e w2 ⟨rfl,hb2⟩
   obtain ⟨_,_,_,k0⟩:=u0a (q:=w.heap.size) (u0f hb2 (some 1)) (u0e (by omega) HL0.out) (by omega)
   have HB2:=hid (seq HB1.out (seq (u1e _ _) hb2))
   clear hb2
   go_wp2_with fail
   refine ret_x3 rfl rfl rfl rfl rfl (put5 _ _ _ _ _ k0) ⟨?_,_,_,_,_,rfl,rx_mk (name:=[]) u7l,zero_rg,hx.symm⟩
   repeat (first | with_reducible exact Below.refl _ _ | with_reducible refine Below.alloc ?_ (by first | omega | (simp only [u0c,u0i,u0p]; omega) | (simp; omega) | (simp; done)) _ | with_reducible refine Below.setCell ?_ (by first | omega | (simp only [u0c,u0i,u0p]; omega) | (simp; omega) | (simp; done)) _ | with_reducible refine Below.drew ?_)
   exact HB2.out
  ·have hx:exprM s.data.toList=(a,i,0):=by unfold exprM; simp only; rw [← HM.out]; simp [hb]
   have HV:=hid (HVAL.out _ hrg (u1e w1 (.cells #[.int .i64 ak,.int .i64 ao,.int .i32 an,.string (bs ax),.slice aA am ac] 34)))
   rw [hb] at HV
   clear hrg hb
   go_wp2_with fail
   refine HV.out.mono ?_
   rintro e w2 ⟨rfl,hb2⟩
   obtain ⟨_,_,_,k0⟩:=u0a (q:=w.heap.size) (u0f hb2 (some 1)) (u0e (by omega) HL0.out) (by omega)
   obtain ⟨_,_,_,k1⟩:=u0a (q:=w1.heap.size) (u0f hb2 (some 1)) tLOC (by omega)
   have hk2:Kp (w.heap.size+1) w1 w2:=fun p u hp hu=>(hb2.cell (by have:=World.block_lt_of_cell? w1 _ hu; simp only [u0c]; omega)).trans (past hu _)
   have hz2:=hb2.size
   simp only [u0c] at hz2
   have HB2:=hid (seq HB1.out (seq (u1e _ _) hb2))
   clear hb2
   go_wp2_with fail
   refine ret_x3 rfl rfl rfl rfl rfl (put5 _ _ _ _ _ k0) ⟨?_,_,_,_,_,rfl,⟨ak,ao,an,ax,aA,am,ac,rfl,HKEEP.out _ ?_ tSZ⟩,HRG.out,hx.symm⟩
   ·repeat (first | with_reducible exact Below.refl _ _ | with_reducible refine Below.alloc ?_ (by first | omega | (simp only [u0c,u0i,u0p]; omega) | (simp; omega) | (simp; done)) _ | with_reducible refine Below.setCell ?_ (by first | omega | (simp only [u0c,u0i,u0p]; omega) | (simp; omega) | (simp; done)) _ | with_reducible refine Below.drew ?_)
    exact HB2.out
   ·repeat (first | with_reducible exact kp_refl _ _ | with_reducible refine kp_alloc ?_ _ | (with_reducible refine kp_set ?_ ?_ _; rotate_left 1; focus (first | omega | (simp only [u0c,u0i,u0p]; omega) | (simp; omega) | (simp; done))) | (with_reducible refine kp_call ?_ (by with_reducible assumption) ?_; rotate_left 1; focus (first | omega | (simp only [u0c,u0i,u0p]; omega) | (simp; omega) | (simp; done))))
    exact hk2
 ·have he:(er == 0)=false:=by simpa using h0
  have hx:exprM s.data.toList=(a,i,er):=by unfold exprM; simp only; rw [← HM.out]; simp [he]
  have hrg:rgE a:=by
   have hm:=HM.out
   unfold u4l at hm
   split at hm
   ·simp only [Prod.mk.injEq] at hm; rw [hm.1]; exact zero_rg
   ·split at hm
    ·simp only [Prod.mk.injEq] at hm; rw [hm.1]; exact zero_rg
    ·unfold outM at hm
     split at hm
     ·simp only [Prod.mk.injEq] at hm; exact absurd hm.2.2 h0
     ·simp only [Prod.mk.injEq] at hm; rw [hm.1]; exact zero_rg
  have HRG:=hid hrg
  clear hrg h0
  go_wp2_with fail
  refine ret_x3 rfl rfl rfl rfl rfl (u0e tSZ (put5 _ _ _ _ _ HL0.out)) ⟨?_,_,_,_,_,rfl,⟨ak,ao,an,ax,aA,am,ac,rfl,HKEEP.out _ ?_ tSZ⟩,HRG.out,hx.symm⟩
  ·repeat (first | with_reducible exact Below.refl _ _ | with_reducible refine Below.alloc ?_ (by first | omega | (simp only [u0c,u0i,u0p]; omega) | (simp; omega) | (simp; done)) _ | with_reducible refine Below.setCell ?_ (by first | omega | (simp only [u0c,u0i,u0p]; omega) | (simp; omega) | (simp; done)) _ | with_reducible refine Below.drew ?_)
   exact HB1.out
  ·exact tKP
def ProgOut (s:ByteArray) (w:World) (e:Ending) (w':World):Prop:=Below w.heap.size w w'∧∃ A m c B mb cb q i er,e=.returned (.tuple #[.agg #[.slice A m c,.slice B mb cb],.int .i64 i,.int .i64 er])∧PgIn w' A m c B mb cb q∧(q,i,er)=progM s.data.toList
theorem pgin_of {w w':World} {h:Nat} {A:Option Addr} {m c:Nat} {B:Option Addr} {mb cb:Nat} {q:Pg} (hr:RPg w (fun g=>h≤g∧g<w.heap.size) [.slice A m c,.slice B mb cb] q) (k:Kp h w w') (hz:w.heap.size≤w'.heap.size)
  (hg:(∀ f∈q.fns,rgF f)∧(∀ f∈q.krs,rgK f)∧q.fns.length+q.krs.length≤4000):PgIn w' A m c B mb cb q:=by
 obtain ⟨A',m',c',B',mb',cb',he,hf,hk⟩:=hr
 cases he
 exact ⟨hf.keeps u2l (fun p u hp hu=>k p u hp.1 hu) (fun _ hb=>Nat.lt_of_lt_of_le hb.2 hz),hk.keeps u2x (fun p u hp hu=>k p u hp.1 hu) (fun _ hb=>Nat.lt_of_lt_of_le hb.2 hz),hg.1,hg.2.1,by have:=hg.2.2; omega⟩
theorem pg_none {w:World}:PgIn w none 0 0 none 0 0 ⟨[],[]⟩:=⟨.inl ⟨rfl,rfl⟩,.inl ⟨rfl,rfl⟩,fun _ h=>(by cases h),fun _ h=>(by cases h),by simp⟩
theorem rgs_zero:(∀ f∈(⟨[],[]⟩:Pg).fns,rgF f)∧(∀ f∈(⟨[],[]⟩:Pg).krs,rgK f)∧(⟨[],[]⟩:Pg).fns.length+(⟨[],[]⟩:Pg).krs.length≤4000:=⟨fun _ h=>(by cases h),fun _ h=>(by cases h),by simp⟩
theorem parse_15 (s:ByteArray) (hs:s.size≤maxLen) (w:World) (hG:Gl w):Calls Tryz.prog 15 #[.string s] w (ProgOut s w):=by
 have HG:=hid hG
 clear hG
 have hz10:=HG.out.z
 go_enter Tryz.func15,Tryz.ntmps15
 go_wp2_with fail
 refine (parseP_any s hs _ (HG.out.alloc _).glob (HG.out.alloc _).z).mono ?_
 rintro e w1 ⟨hb1,v,q,i,er,rfl,⟨A,m,c,B,mb,cb,rfl,hre⟩,hM⟩
 obtain ⟨_,_,_,l0⟩:=u0a (q:=w.heap.size) (u0f hb1 (some 0)) tLOC (by omega)
 have HB1:=hid (seq (u1e _ _) hb1)
 have hz1:=hb1.size
 simp only [u0c] at hz1 hre
 have HRE:=hid hre
 have HM:=hid hM
 clear hb1 hre hM
 have HL0:=hid l0
 clear l0
 by_cases h0:er=0
 ·subst h0
  have hrg:=progP_rgs HM.out
  have hV:∀ w',Below w1.heap.size w1 w'→Calls Tryz.prog 26 #[.agg #[.slice A m c,.slice B mb cb]] w' fun e w2=>e=.returned (.bool (u2s q))∧Below w'.heap.size w' w2:=fun w' h =>
   valid_any q w' A m c B mb cb (HG.out.bel (seq HB1.out h)) ((pgin_of HRE.out (fun _ _ _ hu=>hu) (Nat.le_refl _) hrg).below h)
  have HV0:=hV _ (u1e w1 (.cells #[.slice A m c,.slice B mb cb] 26))
  have HRG:=hid hrg
  clear hV hrg
  cases hb:u2s q
  ·have hx:progM s.data.toList=(⟨[],[]⟩,0,5):=by unfold progM; simp only; rw [← HM.out]; simp [hb]
   rw [hb] at HV0
   have HV:=hid HV0
   clear hb HV0
   go_wp2_with fail
   refine HV.out.mono ?_
   rintro e w2 ⟨rfl,hb2⟩
   obtain ⟨_,_,_,k0⟩:=u0a (q:=w.heap.size) (u0f hb2 (some 1)) (u0e (by omega) HL0.out) (by omega)
   have HB2:=hid (seq HB1.out (seq (u1e _ _) hb2))
   clear hb2
   go_wp2_with fail
   refine ret_p3 rfl rfl rfl rfl rfl (put2 _ _ k0) ⟨?_,_,_,_,_,_,_,_,_,_,rfl,pg_none,hx.symm⟩
   repeat (first | with_reducible exact Below.refl _ _ | with_reducible refine Below.alloc ?_ (by first | omega | (simp only [u0c,u0i,u0p]; omega) | (simp; omega) | (simp; done)) _ | with_reducible refine Below.setCell ?_ (by first | omega | (simp only [u0c,u0i,u0p]; omega) | (simp; omega) | (simp; done)) _ | with_reducible refine Below.drew ?_)
   exact HB2.out
  ·have hx:progM s.data.toList=(q,i,0):=by unfold progM; simp only; rw [← HM.out]; simp [hb]
   rw [hb] at HV0
   have HV:=hid HV0
   clear hb HV0
   go_wp2_with fail
   refine HV.out.mono ?_
   rintro e w2 ⟨rfl,hb2⟩
   obtain ⟨_,_,_,k0⟩:=u0a (q:=w.heap.size) (u0f hb2 (some 1)) (u0e (by omega) HL0.out) (by omega)
   obtain ⟨_,_,_,k1⟩:=u0a (q:=w1.heap.size) (u0f hb2 (some 1)) tLOC (by omega)
   have hk2:Kp (w.heap.size+1) w1 w2:=fun p u hp hu=>(hb2.cell (by have:=World.block_lt_of_cell? w1 _ hu; simp only [u0c]; omega)).trans (past hu _)
   have hz2:=hb2.size
   simp only [u0c] at hz2
   have HB2:=hid (seq HB1.out (seq (u1e _ _) hb2))
   clear hb2
   go_wp2_with fail
   refine ret_p3 rfl rfl rfl rfl rfl (put2 _ _ k0) ⟨?_,_,_,_,_,_,_,_,_,_,rfl,pgin_of HRE.out ?_ tSZ HRG.out,hx.symm⟩
   ·repeat (first | with_reducible exact Below.refl _ _ | with_reducible refine Below.alloc ?_ (by first | omega | (simp only [u0c,u0i,u0p]; omega) | (simp; omega) | (simp; done)) _ | with_reducible refine Below.setCell ?_ (by first | omega | (simp only [u0c,u0i,u0p]; omega) | (simp; omega) | (simp; done)) _ | with_reducible refine Below.drew ?_)
    exact HB2.out
   ·repeat (first | with_reducible exact kp_refl _ _ | with_reducible refine kp_alloc ?_ _ | (with_reducible refine kp_set ?_ ?_ _; rotate_left 1; focus (first | omega | (simp only [u0c,u0i,u0p]; omega) | (simp; omega) | (simp; done))) | (with_reducible refine kp_call ?_ (by with_reducible assumption) ?_; rotate_left 1; focus (first | omega | (simp only [u0c,u0i,u0p]; omega) | (simp; omega) | (simp; done))))
    exact hk2
 ·have he:(er == 0)=false:=by simpa using h0
  have hx:progM s.data.toList=(q,i,er):=by unfold progM; simp only; rw [← HM.out]; simp [he]
  have hrg:q=⟨[],[]⟩:=by
   have hm:=HM.out
   unfold u4l at hm
   split at hm
   ·simp only [Prod.mk.injEq] at hm; exact hm.1
   ·split at hm
    ·simp only [Prod.mk.injEq] at hm; exact hm.1
    ·unfold outM at hm
     split at hm
     ·simp only [Prod.mk.injEq] at hm; exact absurd hm.2.2 h0
     ·simp only [Prod.mk.injEq] at hm; exact hm.1
  have HRG:Hid ((∀ f∈q.fns,rgF f)∧(∀ f∈q.krs,rgK f)∧q.fns.length+q.krs.length≤4000):=hid (by rw [hrg]; exact rgs_zero)
  clear hrg h0
  go_wp2_with fail
  refine ret_p3 rfl rfl rfl rfl rfl (u0e tSZ (put2 _ _ HL0.out)) ⟨?_,_,_,_,_,_,_,_,_,_,rfl,pgin_of HRE.out ?_ tSZ HRG.out,hx.symm⟩
  ·repeat (first | with_reducible exact Below.refl _ _ | with_reducible refine Below.alloc ?_ (by first | omega | (simp only [u0c,u0i,u0p]; omega) | (simp; omega) | (simp; done)) _ | with_reducible refine Below.setCell ?_ (by first | omega | (simp only [u0c,u0i,u0p]; omega) | (simp; omega) | (simp; done)) _ | with_reducible refine Below.drew ?_)
   exact HB1.out
  ·exact tKP
end Go.Proofs.YtbkhnilbgocpnaaGreatDoor.SynC
namespace Go.Proofs.YtbkhnilbgocpnaaGreatDoor.SynC
open Go.Proofs.YtbkhnilbgocpnaaGreatDoor.LexC
def tA:Ex:=.mk 4 0 0 [] [.mk 1 0 0 [97] [],.mk 4 2 0 [] [.mk 1 0 0 [98] [],.mk 3 0 0 [] [.mk 1 0 0 [99] []]]]
def tB:Ex:=.mk 4 11 0 [] [.mk 1 0 0 [98] [],.mk 1 0 0 [97] []]
def qC:Pg:=⟨[],[⟨[107],[([97],true)],[],[.mk 2 0 [97] [.mk 0 0 0 [] [],.mk 2 0 0 [] []] [] []]⟩]⟩
theorem ex_a:exprM [97,32,43,32,98,32,42,32,45,99]=(tA,0,0):=by kernel_rfl
theorem ex_b:exprM [97,32,62,32,98]=(tB,0,0):=by kernel_rfl
theorem ex_c:textE tA=([40,32,97,32,43,32,40,32,98,32,42,32,45,32,99,32,41,32,41],0):=by kernel_rfl
theorem ex_d:textE tB=([40,32,98,32,60,32,97,32,41],0):=by kernel_rfl
theorem ex_e:progM [102,117,110,99,32,102,40]=(⟨[],[]⟩,7,2):=by kernel_rfl
theorem ex_f:progM [97,32,61,32,49,59]=(⟨[],[]⟩,0,2):=by kernel_rfl
theorem ex_g:u4l (⟨[],[]⟩:Pg) progR [107,101,114,110,101,108,32,107,40,98,117,102,102,101,114,32,97,41,32,123,32,97,91,48,93,32,61,32,116,105,100,59,32,125]=(qC,0,0):=by kernel_rfl
theorem ex_h:writ qC=[107,101,114,110,101,108,32,107,32,40,32,98,117,102,102,101,114,32,97,32,41,32,123,32,97,32,91,32,48,32,93,32,61,32,116,105,100,32,59,32,125]:=by kernel_rfl
end Go.Proofs.YtbkhnilbgocpnaaGreatDoor.SynC
namespace Go.Proofs.YtbkhnilbgocpnaaGreatDoor.SynC
open Go.Proofs.YtbkhnilbgocpnaaGreatDoor.LexC
open Go Go.ChangeShapes Go.WideShapes Go.ChangeAt Go.RowKit Go.Deep
theorem re_of {h:Nat} {w:World} {cs:List Value} {a:Ex} (H:RE w (fun g=>h≤g∧g<w.heap.size) cs a):RE w (fun g=>g<w.heap.size) cs a:=RE.keeps (fun _ _ _ hu=>hu) (fun _ hb=>hb.2) _ _ H
theorem re_bel {w w':World} {cs:List Value} {a:Ex} (H:RE w (fun g=>g<w.heap.size) cs a) (k:Below w.heap.size w w'):RE w' (fun g=>g<w'.heap.size) cs a:=RE.keeps (u0z k fun _ hb=>hb) (fun _ hb=>Nat.lt_of_lt_of_le hb k.size) _ _ H
theorem expr_ex (s:ByteArray) (hs:s.size≤maxLen) (t:Ex) (i er:Int) (h:exprM s.data.toList=(t,i,er)) (w:World) (hG:Gl w) :
  Calls Tryz.prog 18 #[.string s] w fun e w'=>(∃ bk bo bn bx bA bm bc,e=.returned (.tuple #[.agg #[.int .i64 bk,.int .i64 bo,.int .i32 bn,.string (bs bx),.slice bA bm bc],.int .i64 i,.int .i64 er])∧RE w' (fun g=>g<w'.heap.size) [.int .i64 bk,.int .i64 bo,.int .i32 bn,.string (bs bx),.slice bA bm bc] t∧rgE t)∧Below w.heap.size w w' :=
 (expr_18 s hs w hG).mono fun e w' ⟨hb,v,a,i',er',he,⟨bk,bo,bn,bx,bA,bm,bc,hv,hr⟩,hg,hx⟩=>⟨by
  rw [h] at hx
  simp only [Prod.mk.injEq] at hx
  obtain ⟨rfl,rfl,rfl⟩:=hx
  subst hv
  exact ⟨bk,bo,bn,bx,bA,bm,bc,he,re_of hr,hg⟩,hb⟩
theorem prog_ex (s:ByteArray) (hs:s.size≤maxLen) (t:Pg) (i er:Int) (h:progM s.data.toList=(t,i,er)) (w:World) (hG:Gl w) :
  Calls Tryz.prog 15 #[.string s] w fun e w'=>(∃ A m c B mb cb,e=.returned (.tuple #[.agg #[.slice A m c,.slice B mb cb],.int .i64 i,.int .i64 er])∧PgIn w' A m c B mb cb t)∧Below w.heap.size w w' :=
 (parse_15 s hs w hG).mono fun e w' ⟨hb,A,m,c,B,mb,cb,q,i',er',he,hp,hx⟩=>⟨by
  rw [h] at hx
  simp only [Prod.mk.injEq] at hx
  obtain ⟨rfl,rfl,rfl⟩:=hx
  exact ⟨A,m,c,B,mb,cb,he,hp⟩,hb⟩
theorem exprText_29 (a:Ex) (w:World) (bk bo bn:Int) (bx:List UInt8) (bA:Option Addr) (bm bc:Nat) (hG:Gl w) (hr:RE w (fun g=>g<w.heap.size) [.int .i64 bk,.int .i64 bo,.int .i32 bn,.string (bs bx),.slice bA bm bc] a) (hg:rgE a) :
  Calls Tryz.prog 29 #[.agg #[.int .i64 bk,.int .i64 bo,.int .i32 bn,.string (bs bx),.slice bA bm bc]] w fun e w'=>e=.returned (.tuple #[.string (bs (textE a).1),.int .i64 (textE a).2])∧Below w.heap.size w w' :=
 (exprText_any a w _ _ _ _ _ _ _ hG.z hG.glob hG.pow hG.tabs.exs hr hg fitE_room).mono fun e w' ⟨he,hb⟩=>⟨by
  rw [he]
  unfold textE validE
  split <;> rfl,hb⟩
theorem textE_ex {a:Ex} {l:List UInt8} {er:Int} (h:textE a=(l,er)) (s:ByteArray) (hs:bs l=s) (w:World) (bk bo bn:Int) (bx:List UInt8) (bA:Option Addr) (bm bc:Nat) (hG:Gl w) (hr:RE w (fun g=>g<w.heap.size) [.int .i64 bk,.int .i64 bo,.int .i32 bn,.string (bs bx),.slice bA bm bc] a) (hg:rgE a) :
  Calls Tryz.prog 29 #[.agg #[.int .i64 bk,.int .i64 bo,.int .i32 bn,.string (bs bx),.slice bA bm bc]] w fun e w'=>e=.returned (.tuple #[.string s,.int .i64 er])∧Below w.heap.size w w':=by
 have:=exprText_29 a w _ _ _ _ _ _ _ hG hr hg
 rw [h] at this
 simp only [hs] at this
 exact this
theorem textP_ex {q:Pg} {l:List UInt8} {er:Int} (h:u5j q=(l,er)) (s:ByteArray) (hs:bs l=s) (w:World) (A:Option Addr) (m c:Nat) (B:Option Addr) (mb cb:Nat) (hG:Gl w) (hp:PgIn w A m c B mb cb q) :
  Calls Tryz.prog 22 #[.agg #[.slice A m c,.slice B mb cb]] w fun e w'=>e=.returned (.tuple #[.string s,.int .i64 er])∧Below w.heap.size w w':=by
 have:=text_any q w A m c B mb cb hG hp
 rw [h] at this
 simp only [hs] at this
 exact this
theorem ex_fit:fitP qC=true:=by kernel_rfl
theorem ex_valid:u2s qC=true:=by unfold u2s; rw [ex_fit,ex_h]; rfl
theorem ex_i:u5j qC=([107,101,114,110,101,108,32,107,32,40,32,98,117,102,102,101,114,32,97,32,41,32,123,32,97,32,91,32,48,32,93,32,61,32,116,105,100,32,59,32,125],0):=by unfold u5j; rw [ex_valid,ex_h]; rfl
theorem ex_j:progM [107,101,114,110,101,108,32,107,40,98,117,102,102,101,114,32,97,41,32,123,32,97,91,48,93,32,61,32,116,105,100,59,32,125]=(qC,0,0):=by unfold progM; simp only; rw [ex_g,ex_valid]; rfl
theorem u6s (w:World) (hG:Gl w):Calls Tryz.prog 14 #[] w fun e w'=>e=.returned (.bool true)∧Below w.heap.size w w':=by
 have HG:=hid hG
 clear hG
 have e1:((⟨#[40,32,97,32,43,32,40,32,98,32,42,32,45,32,99,32,41,32,41]⟩:ByteArray).toList == (⟨#[40,32,97,32,43,32,40,32,98,32,42,32,45,32,99,32,41,32,41]⟩:ByteArray).toList)=true:=by simp
 have e2:((⟨#[40,32,98,32,60,32,97,32,41]⟩:ByteArray).toList == (⟨#[40,32,98,32,60,32,97,32,41]⟩:ByteArray).toList)=true:=by simp
 have e3:((⟨#[107,101,114,110,101,108,32,107,32,40,32,98,117,102,102,101,114,32,97,32,41,32,123,32,97,32,91,32,48,32,93,32,61,32,116,105,100,32,59,32,125]⟩:ByteArray).toList == (⟨#[107,101,114,110,101,108,32,107,32,40,32,98,117,102,102,101,114,32,97,32,41,32,123,32,97,32,91,32,48,32,93,32,61,32,116,105,100,32,59,32,125]⟩:ByteArray).toList)=true:=by simp
 go_enter Tryz.func14,Tryz.ntmps14
 go_wp2_with fail
 refine (expr_ex _ (by decide) tA 0 0 ex_a _ HG.out).mono ?_
 rintro e w1 ⟨⟨ak,ao,an,ax,aA,am,ac,rfl,hr1,hg1⟩,hb1⟩
 have HR1:=hid hr1
 have HB1:=hid hb1
 clear hr1 hb1
 go_wp2_with fail
 refine (expr_ex _ (by decide) tB 0 0 ex_b _ ((HG.out.bel HB1.out).alloc _)).mono ?_
 rintro e w2 ⟨⟨bk,bo,bn,bx,bA,bm,bc,rfl,hr2,hg2⟩,hb2⟩
 have hz2:=hb2.size
 simp only [u0c] at hz2
 obtain ⟨_,_,_,l1⟩:=u0a (q:=w1.heap.size) (u0f hb2 (some 1)) (u1d _ _) (by have:=HG.out.z; have:=HB1.out.size; omega)
 have HB2:=hid (seq (u1e w1 _) hb2)
 have HR2:=hid hr2
 clear hr2
 go_wp2_with fail
 refine (textE_ex ex_c ⟨#[40,32,97,32,43,32,40,32,98,32,42,32,45,32,99,32,41,32,41]⟩ rfl _ _ _ _ _ _ _ _ ((HG.out.bel (seq HB1.out HB2.out)).alloc _) (re_bel HR1.out (seq HB2.out (u1e _ _))) hg1).mono ?_
 rintro e w3 ⟨rfl,hb3⟩
 have hz3:=hb3.size
 simp only [u0c] at hz3
 have HB3:=hid (seq (u1e w2 _) hb3)
 obtain ⟨_,_,_,l2⟩:=u0a (q:=w2.heap.size) (u0f hb3 (some 1)) (u1d _ _) (by have:=HG.out.z; have:=HB1.out.size; omega)
 go_wp2_with fail
 refine (textE_ex ex_d ⟨#[40,32,98,32,60,32,97,32,41]⟩ rfl _ _ _ _ _ _ _ _ (HG.out.bel (seq (seq HB1.out HB2.out) HB3.out)) (re_bel HR2.out HB3.out) hg2).mono ?_
 rintro e w4 ⟨rfl,hb4⟩
 have HB4:=hid (seq (seq (seq HB1.out HB2.out) HB3.out) hb4)
 clear hb4 hb3 hb2 hg1 hg2 HR1 HR2 l1 l2
 go_wp2_with fail
 refine (prog_ex _ (by decide) ⟨[],[]⟩ 7 2 ex_e _ (HG.out.bel HB4.out)).mono ?_
 rintro e w5 ⟨⟨A5,m5,c5,B5,mb5,cb5,rfl,-⟩,hb5⟩
 have HB5:=hid (seq HB4.out hb5)
 clear hb5
 go_wp2_with fail
 refine (prog_ex _ (by decide) ⟨[],[]⟩ 0 2 ex_f _ ((HG.out.bel HB5.out).alloc _)).mono ?_
 rintro e w6 ⟨⟨A6,m6,c6,B6,mb6,cb6,rfl,-⟩,hb6⟩
 have HB6:=hid (seq (seq HB5.out (u1e _ _)) hb6)
 clear hb6
 go_wp2_with fail
 refine (prog_ex _ (by decide) qC 0 0 ex_j _ ((HG.out.bel HB6.out).alloc _)).mono ?_
 rintro e w7 ⟨⟨A7,m7,c7,B7,mb7,cb7,rfl,hp7⟩,hb7⟩
 have HB7:=hid (seq (seq HB6.out (u1e _ _)) hb7)
 have HP7:=hid hp7
 clear hb7 hp7
 go_wp2_with fail
 refine (textP_ex ex_i ⟨#[107,101,114,110,101,108,32,107,32,40,32,98,117,102,102,101,114,32,97,32,41,32,123,32,97,32,91,32,48,32,93,32,61,32,116,105,100,32,59,32,125]⟩ rfl _ _ _ _ _ _ _ ((HG.out.bel HB7.out).alloc _) (HP7.out.below (u1e _ _))).mono ?_
 rintro e w8 ⟨rfl,hb8⟩
 have HB8:=hid (seq (seq HB7.out (u1e _ _)) hb8)
 clear hb8
 go_wp2
 go_ret
 exact ⟨rfl,HB8.out⟩
end Go.Proofs.YtbkhnilbgocpnaaGreatDoor.SynC
