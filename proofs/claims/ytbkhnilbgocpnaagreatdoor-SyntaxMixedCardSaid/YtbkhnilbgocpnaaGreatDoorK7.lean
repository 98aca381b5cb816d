import Derived.Test.YtbkhnilbgocpnaaGreatDoorK0
import Derived.Test.YtbkhnilbgocpnaaGreatDoorK6
set_option linter.unusedVariables false
set_option linter.unusedSimpArgs false
set_option maxRecDepth 100000
set_option maxHeartbeats 2000000
open Go.Lib (hid)
namespace Go.Proofs.YtbkhnilbgocpnaaGreatDoor.SynC
open Go.Proofs.YtbkhnilbgocpnaaGreatDoor.LexC
open Go Go.ChangeShapes Go.WideShapes Go.ChangeAt Go.RowKit Go.Deep
theorem p6_0 {w:World} {q:Nat} {T:TypeId} {fr:Nat × Nat} {x0 x1 x2 x3 x4 x5:Value} (v:Value) (h:w.heap[q]? = some (.cells #[x0,x1,x2,x3,x4,x5] T fr)):(w.setCell ⟨q,0,none⟩ v).heap[q]? = some (.cells #[v,x1,x2,x3,x4,x5] T fr):=by
 simp [World.setCell,Array.getElem?_modify,h]
theorem p6_1 {w:World} {q:Nat} {T:TypeId} {fr:Nat × Nat} {x0 x1 x2 x3 x4 x5:Value} (v:Value) (h:w.heap[q]? = some (.cells #[x0,x1,x2,x3,x4,x5] T fr)):(w.setCell ⟨q,1,none⟩ v).heap[q]? = some (.cells #[x0,v,x2,x3,x4,x5] T fr):=by
 simp [World.setCell,Array.getElem?_modify,h]
theorem p6_2 {w:World} {q:Nat} {T:TypeId} {fr:Nat × Nat} {x0 x1 x2 x3 x4 x5:Value} (v:Value) (h:w.heap[q]? = some (.cells #[x0,x1,x2,x3,x4,x5] T fr)):(w.setCell ⟨q,2,none⟩ v).heap[q]? = some (.cells #[x0,x1,v,x3,x4,x5] T fr):=by
 simp [World.setCell,Array.getElem?_modify,h]
theorem p6_3 {w:World} {q:Nat} {T:TypeId} {fr:Nat × Nat} {x0 x1 x2 x3 x4 x5:Value} (v:Value) (h:w.heap[q]? = some (.cells #[x0,x1,x2,x3,x4,x5] T fr)):(w.setCell ⟨q,3,none⟩ v).heap[q]? = some (.cells #[x0,x1,x2,v,x4,x5] T fr):=by
 simp [World.setCell,Array.getElem?_modify,h]
theorem p6_4 {w:World} {q:Nat} {T:TypeId} {fr:Nat × Nat} {x0 x1 x2 x3 x4 x5:Value} (v:Value) (h:w.heap[q]? = some (.cells #[x0,x1,x2,x3,x4,x5] T fr)):(w.setCell ⟨q,4,none⟩ v).heap[q]? = some (.cells #[x0,x1,x2,x3,v,x5] T fr):=by
 simp [World.setCell,Array.getElem?_modify,h]
theorem p6_5 {w:World} {q:Nat} {T:TypeId} {fr:Nat × Nat} {x0 x1 x2 x3 x4 x5:Value} (v:Value) (h:w.heap[q]? = some (.cells #[x0,x1,x2,x3,x4,x5] T fr)):(w.setCell ⟨q,5,none⟩ v).heap[q]? = some (.cells #[x0,x1,x2,x3,x4,v] T fr):=by
 simp [World.setCell,Array.getElem?_modify,h]
def SeV (h:Nat) (w:World) (v:Value) (l:List Ex):Prop:=∃ A m c,v=.slice A m c∧SlE w (fun g=>h≤g∧g<w.heap.size) (.slice A m c) l
def SsV (h:Nat) (w:World) (v:Value) (l:List St):Prop:=∃ A m c,v=.slice A m c∧SlS w (fun g=>h≤g∧g<w.heap.size) (.slice A m c) l
def RsV (h:Nat) (w:World) (v:Value) (s:St):Prop:=∃ (k o:Int) (x:List UInt8) (A:Option Addr) (m c:Nat) (B:Option Addr) (m' c':Nat) (C:Option Addr) (m'' c'':Nat),
 v=.agg #[.int .i64 k,.int .i64 o,.string (bs x),.slice A m c,.slice B m' c',.slice C m'' c'']∧RS w (fun g=>h≤g∧g<w.heap.size) [.int .i64 k,.int .i64 o,.string (bs x),.slice A m c,.slice B m' c',.slice C m'' c''] s
def VF (_:World) (v:Value) (op:Int):Prop:=v=.int .i64 op
theorem u4f {h:Nat} {w:World}:SlS w (fun g=>h≤g∧g<w.heap.size) (.slice none 0 0) []:=.inl ⟨rfl,rfl⟩
theorem ss_keep {h h':Nat} {w w':World} {v:Value} {l:List St} (hs:SlS w (fun g=>h≤g∧g<w.heap.size) v l) (k:Kp h w w') (hh:h'≤h) (hz:w.heap.size≤w'.heap.size) :
  SlS w' (fun g=>h'≤g∧g<w'.heap.size) v l :=
 hs.keeps (fun p u hp hu=>k p u hp.1 hu) (fun _ hb=>⟨Nat.le_trans hh hb.1,Nat.lt_of_lt_of_le hb.2 hz⟩)
theorem u7y {h h':Nat} {w w':World} {cs:List Value} {a:St} (ha:RS w (fun g=>h≤g∧g<w.heap.size) cs a) (k:Kp h w w') (hh:h'≤h) (hz:w.heap.size≤w'.heap.size) :
  RS w' (fun g=>h'≤g∧g<w'.heap.size) cs a :=
 RS.keeps (fun p u hp hu=>k p u hp.1 hu) (fun _ hb=>⟨Nat.le_trans hh hb.1,Nat.lt_of_lt_of_le hb.2 hz⟩) a cs ha
theorem rs_mk {h:Nat} {w:World} {kind op:Int} {name:List UInt8} {A B C:Option Addr} {m c m' c' m'' c'':Nat} {es:List Ex} {bs' cs:List St} (h1:SlE w (fun g=>h≤g∧g<w.heap.size) (.slice A m c) es)
  (h2:SlS w (fun g=>h≤g∧g<w.heap.size) (.slice B m' c') bs') (h3:SlS w (fun g=>h≤g∧g<w.heap.size) (.slice C m'' c'') cs) :
  RsV h w (.agg #[.int .i64 kind,.int .i64 op,.string (bs name),.slice A m c,.slice B m' c',.slice C m'' c'']) (.mk kind op name es bs' cs) :=
 ⟨kind,op,name,A,m,c,B,m',c',C,m'',c'',rfl,by rw [RS_eq]; exact ⟨_,_,_,rfl,h1,h2,h3⟩⟩
theorem adv_F {E:Env} {i j:Nat} {x:Int} (hj:j≤E.L.length) (h:needF' (E.ks.drop i)=.ok x (E.ks.drop j)):i<j:=by
 refine adv_of hj ?_
 cases e:E.ks.drop i with
 | nil=>rw [e] at h; cases h
 | cons t r =>
  rw [e] at h
  unfold needF' needF at h
  simp only at h
  split at h
  ·cases h; simp
  ·cases h
theorem adv_G {E:Env} {i j:Nat} {l:List Ex} (hj:j≤E.L.length) (h:singR (E.ks.drop i)=.ok l (E.ks.drop j)):i<j:=by
 obtain ⟨a,q,e1,e2⟩:=u0q h
 cases e2
 exact adv_E hj e1
theorem adv_C {E:Env} {i j:Nat} {s:List UInt8} {l:List Ex} (hj:j≤E.L.length) (h:cellR s (E.ks.drop i)=.ok l (E.ks.drop j)):i<j:=by
 refine adv_of hj ?_
 obtain ⟨_,q1,e1,h⟩:=u0q h
 obtain ⟨_,q2,e2,h⟩:=u0q h
 obtain ⟨_,q3,e3,h⟩:=u0q h
 obtain ⟨_,q4,e4,h⟩:=u0q h
 obtain ⟨_,q5,e5,h⟩:=u0q h
 cases h
 have ln:∀ {s:List UInt8} {l r:List K} {u:Unit},u3j s l=.ok u r→r.length<l.length:=by
  intro s l r u h
  obtain ⟨t,r',e,_,h⟩:=u1b h
  cases h; rw [e]; simp
 have:=ln e1
 have:=PE_len _ _ _ _ e2
 have:=ln e3
 have:=ln e4
 have:=PE_len _ _ _ _ e5
 simp only [dl] at *
 omega
def foldT (k:Nat):List UInt8 × Int:=foldL.getD k ([],0)
theorem run_index_fold (w:World):∀ k,k<6→(Instr.index 227 (.agg foldA) (.int .i64 (k:Nat))).run Tryz.prog w=.ok (.agg #[.string (bs (foldT k).1),.int .i64 (foldT k).2]) w:=by
 repeat (first | exact u3l | refine u3m ?_ (by as_aux_lemma=>kernel_rfl))
theorem u5g {ops:Array Oper} {rest:List Oper} {o:Oper} {a:Act} {w:World} {Q:Exit→Act→World→Prop} (hg:o.guard=none) (x y:Operand)
  (hop:o.op=Op.index 227 x y) (hx:a.eval x=.agg foldA) (k:Nat) (hy:a.eval y=.int .i64 (k:Nat)) (hk:k<6) (g:List UInt8) (op:Int) (hgk:foldT k=(g,op))
  (hK:wpList Tryz.prog ops Q rest (a.put o.dst (.agg #[.string (bs g),.int .i64 op])) w):wpList Tryz.prog ops Q (o :: rest) a w:=by
 refine wpList_plain hg fun K' hK'=>?_
 unfold Oper.wp execOp
 have:=run_index_fold w k hk
 rw [hgk] at this
 simp only [hop,hx,hy,Sem.run_bind,this,Sem.run_pure,Result.andThen_ok]
 exact hK' _ _ hK
theorem foldT_asked:∀ k,k<6→(foldT k).1∈asked:=by
 repeat (first | exact u3l | refine u3m ?_ (by decide))
theorem foldOf_hit (k:Nat) (hk:k<6) (n:Int):foldOf (2,(foldT k).1,n)=some (foldT k).2:=by
 have:k=0∨k=1∨k=2∨k=3∨k=4∨k=5:=by omega
 rcases this with rfl | rfl | rfl | rfl | rfl | rfl <;> rfl
theorem needF_no {l:List K} (h:∀ k,k<6→hit (foldT k).1 l=false):needF' l=.no l:=by
 cases l with
 | nil=>rfl
 | cons t r =>
  obtain ⟨k,x,n⟩:=t
  have e:foldOf (k,x,n)=none:=by
   unfold foldOf
   split
   ·rename_i hk
    have hk:k=2:=by simpa using hk
    subst hk
    refine u5n _ ?_
    intro y hy; simp at hy
    rcases hy with rfl | rfl | rfl | rfl | rfl | rfl
    ·exact u4r (h 0 (by omega))
    ·exact u4r (h 1 (by omega))
    ·exact u4r (h 2 (by omega))
    ·exact u4r (h 3 (by omega))
    ·exact u4r (h 4 (by omega))
    ·exact u4r (h 5 (by omega))
   ·rfl
  unfold needF' needF
  simp only [e]
theorem fold_any {E:Env} (hE:E.Ok) (w:World) (i:Nat) (hp0:Ps E w i):Calls Tryz.prog 222 #[.pointer (some ⟨E.b,0,none⟩)] w (Fin E w (needF' (E.ks.drop i)) VF):=by
 have hsz:=hp0.sz
 have hlt:=hE.lt
 have hb10:=hE.b10
 obtain ⟨ty,fr,hS⟩:=hp0.g.fold
 have hS1:=hid hS
 have HP:=hid hp0
 clear hS hp0
 go_enter Tryz.func222,Tryz.ntmps222
 go_wp2_with (refine wpList_load_row rfl 227 _ rfl 6 rfl ty foldA fr _ hS1.out Tryz.underlying227 rfl (by kernel_rfl) ?_)
 go_loopw [6] (fun n wr=>∃ k:Nat,k≤6∧n=.int .i64 k∧(∀ m,m<k→hit (foldT m).1 (E.ks.drop i)=false)∧w.grownBy wr (some E.b)∧Ps E wr i) (fun n _=>6 - (intOf n).toNat)
 case atStart=>exact ⟨0,Nat.zero_le _,rfl,fun m hm=>absurd hm (Nat.not_lt_zero m),tGB,HP.out⟩
 case round =>
  obtain ⟨k,hk,rfl,hno,hgr,hp⟩:=hrel
  have HK:=hid hno
  have hz0:=hgr.size
  clear hno
  by_cases hlt4:k<6
  ·obtain ⟨g,op,hg⟩:∃ g op,foldT k=(g,op):=⟨_,_,rfl⟩
   have hga:=foldT_asked k hlt4
   rw [hg] at hga
   have HG:=hid hg
   have HA:=hid hga
   clear hg hga
   go_wp2_with (refine u5g rfl _ _ rfl rfl k rfl hlt4 g op HG.out ?_)
   refine (u1u hE _ i (hp.keepB hE tBEL) g HA.out).mono ?_
   rintro e w1 ⟨hg1,⟨hh,rfl,hp1⟩ | ⟨hh,rfl,hp1⟩⟩
   all_goals (have HH:=hid hh; clear hh; have hz:=hg1.size; (try simp only [u0c,u0i,u0p] at hz); have hl:=u0a (q:=wr.heap.size) hg1 tLOX tSZ; obtain ⟨l1,l2,l3,l4⟩:=hl)
   ·go_wp2
    go_ret
    refine ⟨tGB,.inl ⟨op,i+1,_,?_,hp1.keepB hE tBEL,rfl,rfl⟩⟩
    obtain ⟨n,hd⟩:=u4p HH.out
    rw [hd]
    have:=foldOf_hit k hlt4 n
    rw [HG.out] at this
    exact needF_hit this
   ·go_wp2
    go_roundw
    case rel=>exact ⟨k+1,by omega,by go_num,fun m hm=>(by
     by_cases e:m=k
     ·rw [e,HG.out]; exact HH.out
     ·exact HK.out m (by omega)),tGB,hp1⟩
    case measure=>simp [intOf]; omega
  ·go_wp2
   exact ⟨rfl,tGB,.inr ⟨i,needF_no fun m hm=>HK.out m (by omega),hp,rfl⟩⟩
theorem u6k {E:Env} (hE:E.Ok) (w:World) (i:Nat) (hp0:Ps E w i) :
  Calls Tryz.prog 209 #[.pointer (some ⟨E.b,0,none⟩)] w (Fin E w (singR (E.ks.drop i)) (SeV w.heap.size)):=by
 have hsz:=hp0.sz
 have hlt:=hE.lt
 have hi0:=hp0.hi
 go_enter Tryz.func209,Tryz.ntmps209
 go_wp2_with fail
 refine (expr_all hE _ _ (hp0.keepB hE tBEL)).mono ?_
 rintro e w1 ⟨hg1,⟨a1,j1,v1,hR,hp1,rfl,⟨ak,ao,an,ax,aA,am,ac,rfl,ha1⟩⟩ | ⟨j1,hR,hp1,rfl⟩⟩
 all_goals (have HR1:=hid hR; clear hR; have hz:=hg1.size; (try simp only [u0c,u0i,u0p] at hz))
 rotate_left 1
 ·go_wp2
  exact ⟨rfl,tGB,.inr ⟨j1,by simp only [singR,HR1.out,Res.bind,u0s,u0w],hp1,rfl⟩⟩
 have hj1:=adv_E hp1.hi HR1.out
 go_wp2
 go_ret
 exact ⟨tGB,.inl ⟨[a1],j1,_,by simp only [singR,HR1.out,Res.bind,u0s,u0w],hp1.keepB hE tBEL,rfl,⟨_,_,_,rfl,sl_one (nb:=w1.heap.size+1) _ _ _ _ _ _ _ tLOX tSZ (u3z ha1 tKP tSZ tSZ)⟩⟩⟩
theorem cell_any {E:Env} (hE:E.Ok) (w:World) (i:Nat) (s:List UInt8) (hs:s∈asked) (hp0:Ps E w i) :
  Calls Tryz.prog 223 #[.pointer (some ⟨E.b,0,none⟩),.string (bs s)] w (Fin E w (cellR s (E.ks.drop i)) (SeV w.heap.size)):=by
 have hsz:=hp0.sz
 have hlt:=hE.lt
 have hi0:=hp0.hi
 go_enter Tryz.func223,Tryz.ntmps223
 go_wp2_with fail
 refine (u1o hE _ _ (hp0.keepB hE tBEL) [91] (by decide)).mono ?_
 rintro e w1 ⟨hg1,⟨a1,j1,v1,hR,hp1,rfl,rfl⟩ | ⟨j1,hR,hp1,rfl⟩⟩
 all_goals (have HR1:=hid hR; clear hR; have hz:=hg1.size; (try simp only [u0c,u0i,u0p] at hz))
 rotate_left 1
 ·go_wp2
  exact ⟨rfl,tGB,.inr ⟨j1,by simp only [cellR,HR1.out,Res.bind,u0s,u0w],hp1,rfl⟩⟩
 have hj1:=u6h hp1.hi HR1.out
 go_wp2_with fail
 refine (expr_all hE _ _ (hp1.keepB hE tBEL)).mono ?_
 rintro e w2 ⟨hg2,⟨a2,j2,v2,hR,hp2,rfl,⟨ak,ao,an,ax,aA,am,ac,rfl,ha2⟩⟩ | ⟨j2,hR,hp2,rfl⟩⟩
 all_goals (have HR2:=hid hR; clear hR; have hz:=hg2.size; (try simp only [u0c,u0i,u0p] at hz))
 rotate_left 1
 ·go_wp2
  exact ⟨rfl,tGB,.inr ⟨j2,by simp only [cellR,HR1.out,HR2.out,Res.bind,u0s,u0w],hp2,rfl⟩⟩
 have hj2:=adv_E hp2.hi HR2.out
 go_wp2_with fail
 refine (u1o hE _ _ (hp2.keepB hE tBEL) [93] (by decide)).mono ?_
 rintro e w3 ⟨hg3,⟨a3,j3,v3,hR,hp3,rfl,rfl⟩ | ⟨j3,hR,hp3,rfl⟩⟩
 all_goals (have HR3:=hid hR; clear hR; have hz:=hg3.size; (try simp only [u0c,u0i,u0p] at hz))
 all_goals (have hl:=u0a (q:=w2.heap.size) hg3 tLOX tSZ; obtain ⟨_,_,_,_⟩:=hl)
 rotate_left 1
 ·go_wp2
  exact ⟨rfl,tGB,.inr ⟨j3,by simp only [cellR,HR1.out,HR2.out,HR3.out,Res.bind,u0s,u0w],hp3,rfl⟩⟩
 have hj3:=u6h hp3.hi HR3.out
 go_wp2_with fail
 refine (u1o hE _ _ (hp3.keepB hE tBEL) s hs).mono ?_
 rintro e w4 ⟨hg4,⟨a4,j4,v4,hR,hp4,rfl,rfl⟩ | ⟨j4,hR,hp4,rfl⟩⟩
 all_goals (have HR4:=hid hR; clear hR; have hz:=hg4.size; (try simp only [u0c,u0i,u0p] at hz))
 all_goals (have hl:=u0a (q:=w2.heap.size) hg4 tLOX tSZ; obtain ⟨_,_,_,_⟩:=hl)
 rotate_left 1
 ·go_wp2
  exact ⟨rfl,tGB,.inr ⟨j4,by simp only [cellR,HR1.out,HR2.out,HR3.out,HR4.out,Res.bind,u0s,u0w],hp4,rfl⟩⟩
 have hj4:=u6h hp4.hi HR4.out
 go_wp2_with fail
 refine (expr_all hE _ _ (hp4.keepB hE tBEL)).mono ?_
 rintro e w5 ⟨hg5,⟨a5,j5,v5,hR,hp5,rfl,⟨bk,bo,bn,bx,bA,bm,bc,rfl,ha5⟩⟩ | ⟨j5,hR,hp5,rfl⟩⟩
 all_goals (have HR5:=hid hR; clear hR; have hz:=hg5.size; (try simp only [u0c,u0i,u0p] at hz))
 all_goals (have hl:=u0a (q:=w2.heap.size) hg5 tLOX tSZ; obtain ⟨_,_,_,_⟩:=hl)
 rotate_left 1
 ·go_wp2
  exact ⟨rfl,tGB,.inr ⟨j5,by simp only [cellR,HR1.out,HR2.out,HR3.out,HR4.out,HR5.out,Res.bind,u0s,u0w],hp5,rfl⟩⟩
 have hj5:=adv_E hp5.hi HR5.out
 go_wp2
 go_ret
 exact ⟨tGB,.inl ⟨[a2,a5],j5,_,by simp only [cellR,HR1.out,HR2.out,HR3.out,HR4.out,HR5.out,Res.bind,u0s,u0w],hp5.keepB hE tBEL,rfl,⟨_,_,_,rfl,sl_two (nb:=w5.heap.size+1) _ _ _ _ _ _ _ _ _ _ _ _ _ _ tLOX tSZ (u3z ha2 tKP tSZ tSZ) (u3z ha5 tKP tSZ tSZ)⟩⟩⟩
theorem let_any {E:Env} (hE:E.Ok) (w:World) (i:Nat) (hp0:Ps E w i) :
  Calls Tryz.prog 210 #[.pointer (some ⟨E.b,0,none⟩)] w (Fin E w (letR (E.ks.drop i)) (RsV w.heap.size)):=by
 have hsz:=hp0.sz
 have hlt:=hE.lt
 have hi0:=hp0.hi
 go_enter Tryz.func210,Tryz.ntmps210
 go_wp2_with fail
 refine (name_any hE _ _ (hp0.keepB hE tBEL)).mono ?_
 rintro e w1 ⟨hg1,⟨a1,j1,v1,hR,hp1,rfl,rfl⟩ | ⟨j1,hR,hp1,rfl⟩⟩
 all_goals (have HR1:=hid hR; clear hR; have hz:=hg1.size; (try simp only [u0c,u0i,u0p] at hz))
 all_goals (have hl:=u0a (q:=w.heap.size) hg1 tLOX tSZ; obtain ⟨_,_,_,_⟩:=hl)
 all_goals (have hl:=u0a (q:=w.heap.size+1) hg1 tLOX tSZ; obtain ⟨_,_,_,_⟩:=hl)
 rotate_left 1
 ·go_wp2
  exact ⟨rfl,tGB,.inr ⟨j1,by simp only [letR,HR1.out,Res.bind,u0s,u0w],hp1,rfl⟩⟩
 have hj1:=adv_N hp1.hi HR1.out
 go_wp2_with fail
 refine (u1o hE _ _ (hp1.keepB hE tBEL) [61] (by decide)).mono ?_
 rintro e w2 ⟨hg2,⟨a2,j2,v2,hR,hp2,rfl,rfl⟩ | ⟨j2,hR,hp2,rfl⟩⟩
 all_goals (have HR2:=hid hR; clear hR; have hz:=hg2.size; (try simp only [u0c,u0i,u0p] at hz))
 all_goals (have hl:=u0a (q:=w.heap.size) hg2 tLOX tSZ; obtain ⟨_,_,_,_⟩:=hl)
 all_goals (have hl:=u0a (q:=w.heap.size+1) hg2 tLOX tSZ; obtain ⟨_,_,_,_⟩:=hl)
 rotate_left 1
 ·go_wp2
  exact ⟨rfl,tGB,.inr ⟨j2,by simp only [letR,HR1.out,HR2.out,Res.bind,u0s,u0w],hp2,rfl⟩⟩
 have hj2:=u6h hp2.hi HR2.out
 go_wp2_with fail
 refine (u6k hE _ _ (hp2.keepB hE tBEL)).mono ?_
 rintro e w3 ⟨hg3,⟨a3,j3,v3,hR,hp3,rfl,⟨A3,m3,c3,rfl,hs3⟩⟩ | ⟨j3,hR,hp3,rfl⟩⟩
 all_goals (have HR3:=hid hR; clear hR; have hz:=hg3.size; (try simp only [u0c,u0i,u0p] at hz))
 all_goals (have hl:=u0a (q:=w.heap.size) hg3 tLOX tSZ; obtain ⟨_,_,_,_⟩:=hl)
 all_goals (have hl:=u0a (q:=w.heap.size+1) hg3 tLOX tSZ; obtain ⟨_,_,_,_⟩:=hl)
 rotate_left 1
 ·go_wp2
  exact ⟨rfl,tGB,.inr ⟨j3,by simp only [letR,HR1.out,HR2.out,HR3.out,Res.bind,u0s,u0w],hp3,rfl⟩⟩
 have hj3:=adv_G hp3.hi HR3.out
 go_wp2
 refine u4k rfl rfl rfl tRES ?_
 exact ⟨tGB,.inl ⟨.mk 0 0 a1 a3 [] [],j3,_,by simp only [letR,HR1.out,HR2.out,HR3.out,Res.bind,u0s,u0w],hp3.keepB hE tBEL,rfl,rs_mk (u7f hs3 tKP tSZ tSZ) u4f u4f⟩⟩
theorem atomic_any {E:Env} (hE:E.Ok) (w:World) (i:Nat) (hp0:Ps E w i) :
  Calls Tryz.prog 212 #[.pointer (some ⟨E.b,0,none⟩)] w (Fin E w (atomR (E.ks.drop i)) (RsV w.heap.size)):=by
 have hsz:=hp0.sz
 have hlt:=hE.lt
 have hi0:=hp0.hi
 go_enter Tryz.func212,Tryz.ntmps212
 go_wp2_with fail
 refine (fold_any hE _ _ (hp0.keepB hE tBEL)).mono ?_
 rintro e w1 ⟨hg1,⟨a1,j1,v1,hR,hp1,rfl,rfl⟩ | ⟨j1,hR,hp1,rfl⟩⟩
 all_goals (have HR1:=hid hR; clear hR; have hz:=hg1.size; (try simp only [u0c,u0i,u0p] at hz))
 all_goals (have hl:=u0a (q:=w.heap.size) hg1 tLOX tSZ; obtain ⟨_,_,_,_⟩:=hl)
 all_goals (have hl:=u0a (q:=w.heap.size+1) hg1 tLOX tSZ; obtain ⟨_,_,_,_⟩:=hl)
 rotate_left 1
 ·go_wp2
  exact ⟨rfl,tGB,.inr ⟨j1,by simp only [atomR,HR1.out,Res.bind,u0s,u0w],hp1,rfl⟩⟩
 have hj1:=adv_F hp1.hi HR1.out
 go_wp2_with fail
 refine (name_any hE _ _ (hp1.keepB hE tBEL)).mono ?_
 rintro e w2 ⟨hg2,⟨a2,j2,v2,hR,hp2,rfl,rfl⟩ | ⟨j2,hR,hp2,rfl⟩⟩
 all_goals (have HR2:=hid hR; clear hR; have hz:=hg2.size; (try simp only [u0c,u0i,u0p] at hz))
 all_goals (have hl:=u0a (q:=w.heap.size) hg2 tLOX tSZ; obtain ⟨_,_,_,_⟩:=hl)
 all_goals (have hl:=u0a (q:=w.heap.size+1) hg2 tLOX tSZ; obtain ⟨_,_,_,_⟩:=hl)
 rotate_left 1
 ·go_wp2
  exact ⟨rfl,tGB,.inr ⟨j2,by simp only [atomR,HR1.out,HR2.out,Res.bind,u0s,u0w],hp2,rfl⟩⟩
 have hj2:=adv_N hp2.hi HR2.out
 go_wp2_with fail
 refine (cell_any hE _ _ [44] (by decide) (hp2.keepB hE tBEL)).mono ?_
 rintro e w3 ⟨hg3,⟨a3,j3,v3,hR,hp3,rfl,⟨A3,m3,c3,rfl,hs3⟩⟩ | ⟨j3,hR,hp3,rfl⟩⟩
 all_goals (have HR3:=hid hR; clear hR; have hz:=hg3.size; (try simp only [u0c,u0i,u0p] at hz))
 all_goals (have hl:=u0a (q:=w.heap.size) hg3 tLOX tSZ; obtain ⟨_,_,_,_⟩:=hl)
 all_goals (have hl:=u0a (q:=w.heap.size+1) hg3 tLOX tSZ; obtain ⟨_,_,_,_⟩:=hl)
 rotate_left 1
 ·go_wp2
  exact ⟨rfl,tGB,.inr ⟨j3,by simp only [atomR,HR1.out,HR2.out,HR3.out,Res.bind,u0s,u0w],hp3,rfl⟩⟩
 have hj3:=adv_C hp3.hi HR3.out
 go_wp2
 refine u4k rfl rfl rfl tRES ?_
 exact ⟨tGB,.inl ⟨.mk 9 a1 a2 a3 [] [],j3,_,by simp only [atomR,HR1.out,HR2.out,HR3.out,Res.bind,u0s,u0w],hp3.keepB hE tBEL,rfl,rs_mk (u7f hs3 tKP tSZ tSZ) u4f u4f⟩⟩
theorem collect_any {E:Env} (hE:E.Ok) (w:World) (i:Nat) (hp0:Ps E w i) :
  Calls Tryz.prog 213 #[.pointer (some ⟨E.b,0,none⟩)] w (Fin E w (colR (E.ks.drop i)) (RsV w.heap.size)):=by
 have hsz:=hp0.sz
 have hlt:=hE.lt
 have hi0:=hp0.hi
 go_enter Tryz.func213,Tryz.ntmps213
 go_wp2_with fail
 refine (name_any hE _ _ (hp0.keepB hE tBEL)).mono ?_
 rintro e w1 ⟨hg1,⟨a1,j1,v1,hR,hp1,rfl,rfl⟩ | ⟨j1,hR,hp1,rfl⟩⟩
 all_goals (have HR1:=hid hR; clear hR; have hz:=hg1.size; (try simp only [u0c,u0i,u0p] at hz))
 all_goals (have hl:=u0a (q:=w.heap.size) hg1 tLOX tSZ; obtain ⟨_,_,_,_⟩:=hl)
 all_goals (have hl:=u0a (q:=w.heap.size+1) hg1 tLOX tSZ; obtain ⟨_,_,_,_⟩:=hl)
 rotate_left 1
 ·go_wp2
  exact ⟨rfl,tGB,.inr ⟨j1,by simp only [colR,HR1.out,Res.bind,u0s,u0w],hp1,rfl⟩⟩
 have hj1:=adv_N hp1.hi HR1.out
 go_wp2_with fail
 refine (u1o hE _ _ (hp1.keepB hE tBEL) [61] (by decide)).mono ?_
 rintro e w2 ⟨hg2,⟨a2,j2,v2,hR,hp2,rfl,rfl⟩ | ⟨j2,hR,hp2,rfl⟩⟩
 all_goals (have HR2:=hid hR; clear hR; have hz:=hg2.size; (try simp only [u0c,u0i,u0p] at hz))
 all_goals (have hl:=u0a (q:=w.heap.size) hg2 tLOX tSZ; obtain ⟨_,_,_,_⟩:=hl)
 all_goals (have hl:=u0a (q:=w.heap.size+1) hg2 tLOX tSZ; obtain ⟨_,_,_,_⟩:=hl)
 rotate_left 1
 ·go_wp2
  exact ⟨rfl,tGB,.inr ⟨j2,by simp only [colR,HR1.out,HR2.out,Res.bind,u0s,u0w],hp2,rfl⟩⟩
 have hj2:=u6h hp2.hi HR2.out
 go_wp2_with fail
 refine (fold_any hE _ _ (hp2.keepB hE tBEL)).mono ?_
 rintro e w3 ⟨hg3,⟨a3,j3,v3,hR,hp3,rfl,rfl⟩ | ⟨j3,hR,hp3,rfl⟩⟩
 all_goals (have HR3:=hid hR; clear hR; have hz:=hg3.size; (try simp only [u0c,u0i,u0p] at hz))
 all_goals (have hl:=u0a (q:=w.heap.size) hg3 tLOX tSZ; obtain ⟨_,_,_,_⟩:=hl)
 all_goals (have hl:=u0a (q:=w.heap.size+1) hg3 tLOX tSZ; obtain ⟨_,_,_,_⟩:=hl)
 rotate_left 1
 ·go_wp2
  exact ⟨rfl,tGB,.inr ⟨j3,by simp only [colR,HR1.out,HR2.out,HR3.out,Res.bind,u0s,u0w],hp3,rfl⟩⟩
 have hj3:=adv_F hp3.hi HR3.out
 go_wp2_with fail
 refine (u6k hE _ _ (hp3.keepB hE tBEL)).mono ?_
 rintro e w4 ⟨hg4,⟨a4,j4,v4,hR,hp4,rfl,⟨A4,m4,c4,rfl,hs4⟩⟩ | ⟨j4,hR,hp4,rfl⟩⟩
 all_goals (have HR4:=hid hR; clear hR; have hz:=hg4.size; (try simp only [u0c,u0i,u0p] at hz))
 all_goals (have hl:=u0a (q:=w.heap.size) hg4 tLOX tSZ; obtain ⟨_,_,_,_⟩:=hl)
 all_goals (have hl:=u0a (q:=w.heap.size+1) hg4 tLOX tSZ; obtain ⟨_,_,_,_⟩:=hl)
 rotate_left 1
 ·go_wp2
  exact ⟨rfl,tGB,.inr ⟨j4,by simp only [colR,HR1.out,HR2.out,HR3.out,HR4.out,Res.bind,u0s,u0w],hp4,rfl⟩⟩
 have hj4:=adv_G hp4.hi HR4.out
 go_wp2
 refine u4k rfl rfl rfl tRES ?_
 exact ⟨tGB,.inl ⟨.mk 10 a3 a1 a4 [] [],j4,_,by simp only [colR,HR1.out,HR2.out,HR3.out,HR4.out,Res.bind,u0s,u0w],hp4.keepB hE tBEL,rfl,rs_mk (u7f hs4 tKP tSZ tSZ) u4f u4f⟩⟩
def BodyC (E:Env) (i:Nat):Prop:=∀ (w:World),Ps E w i→Calls Tryz.prog 131 #[.pointer (some ⟨E.b,0,none⟩)] w (Fin E w (PR (E.ks.drop i)) (SsV w.heap.size))
theorem adv_P {E:Env} {i j:Nat} {l:List St} (hj:j≤E.L.length) (h:PR (E.ks.drop i)=.ok l (E.ks.drop j)):i<j:=by
 have:=PR_len _ _ _ h
 exact adv_of hj (by omega)
theorem adv_B {E:Env} {i j:Nat} {l:List St} (hj:j≤E.L.length) (h:u6q (E.ks.drop i)=.ok l (E.ks.drop j)):i<j:=by
 refine adv_of hj ?_
 obtain ⟨u,q,e1,e2⟩:=u0q h
 obtain ⟨t,r',e,_,h⟩:=u1b e1
 cases h
 have:=PR_len _ _ _ e2
 rw [e]; simp only [List.length_cons]; omega
theorem block_any {E:Env} (hE:E.Ok) (w:World) (i:Nat) (hB:∀ j,i<j→BodyC E j) (hp0:Ps E w i) :
  Calls Tryz.prog 125 #[.pointer (some ⟨E.b,0,none⟩)] w (Fin E w (u6q (E.ks.drop i)) (SsV w.heap.size)):=by
 have HB:=hid hB
 have hsz:=hp0.sz
 have hlt:=hE.lt
 clear hB
 go_enter Tryz.func125,Tryz.ntmps125
 go_wp2_with fail
 refine (u1o hE _ _ (hp0.keepB hE tBEL) [123] (by decide)).mono ?_
 rintro e w1 ⟨hg1,⟨a1,j1,v1,hR,hp1,rfl,rfl⟩ | ⟨j1,hR,hp1,rfl⟩⟩
 all_goals (have HR1:=hid hR; clear hR; have hz:=hg1.size)
 rotate_left 1
 ·go_wp2
  exact ⟨rfl,tGB,.inr ⟨j1,by simp only [u6q,HR1.out,Res.bind],hp1,rfl⟩⟩
 have hj1:=u6h hp1.hi HR1.out
 go_wp2_with fail
 refine (HB.out j1 hj1 _ hp1).mono ?_
 rintro e w2 ⟨hg2,⟨a2,j2,v2,hR,hp2,rfl,⟨A,m,c,rfl,hs⟩⟩ | ⟨j2,hR,hp2,rfl⟩⟩
 all_goals (have HR2:=hid hR; clear hR; have hz2:=hg2.size)
 ·go_wp2
  go_ret
  exact ⟨tGB,.inl ⟨a2,j2,_,by simp only [u6q,HR1.out,HR2.out,Res.bind],hp2,rfl,⟨_,_,_,rfl,ss_keep hs tKP tSZ tSZ⟩⟩⟩
 ·go_wp2
  exact ⟨rfl,tGB,.inr ⟨j2,by simp only [u6q,HR1.out,HR2.out,Res.bind],hp2,rfl⟩⟩
theorem loop_any {E:Env} (hE:E.Ok) (w:World) (i:Nat) (hB:∀ j,i<j→BodyC E j) (hp0:Ps E w i) :
  Calls Tryz.prog 194 #[.pointer (some ⟨E.b,0,none⟩)] w (Fin E w (loopR (E.ks.drop i)) (RsV w.heap.size)):=by
 have hsz:=hp0.sz
 have hlt:=hE.lt
 have hi0:=hp0.hi
 have HB:=hid hB
 clear hB
 go_enter Tryz.func194,Tryz.ntmps194
 go_wp2_with fail
 refine (u6k hE _ _ (hp0.keepB hE tBEL)).mono ?_
 rintro e w1 ⟨hg1,⟨a1,j1,v1,hR,hp1,rfl,⟨A1,m1,c1,rfl,hs1⟩⟩ | ⟨j1,hR,hp1,rfl⟩⟩
 all_goals (have HR1:=hid hR; clear hR; have hz:=hg1.size; (try simp only [u0c,u0i,u0p] at hz))
 all_goals (have hl:=u0a (q:=w.heap.size) hg1 tLOX tSZ; obtain ⟨_,_,_,_⟩:=hl)
 all_goals (have hl:=u0a (q:=w.heap.size+1) hg1 tLOX tSZ; obtain ⟨_,_,_,_⟩:=hl)
 rotate_left 1
 ·go_wp2
  exact ⟨rfl,tGB,.inr ⟨j1,by simp only [loopR,HR1.out,Res.bind,u0s,u0w],hp1,rfl⟩⟩
 have hj1:=adv_G hp1.hi HR1.out
 go_wp2_with fail
 refine (block_any hE _ _ (fun j hj=>HB.out j (by omega)) (hp1.keepB hE tBEL)).mono ?_
 rintro e w2 ⟨hg2,⟨a2,j2,v2,hR,hp2,rfl,⟨A2,m2,c2,rfl,hs2⟩⟩ | ⟨j2,hR,hp2,rfl⟩⟩
 all_goals (have HR2:=hid hR; clear hR; have hz:=hg2.size; (try simp only [u0c,u0i,u0p] at hz))
 all_goals (have hl:=u0a (q:=w.heap.size) hg2 tLOX tSZ; obtain ⟨_,_,_,_⟩:=hl)
 all_goals (have hl:=u0a (q:=w.heap.size+1) hg2 tLOX tSZ; obtain ⟨_,_,_,_⟩:=hl)
 rotate_left 1
 ·go_wp2
  exact ⟨rfl,tGB,.inr ⟨j2,by simp only [loopR,HR1.out,HR2.out,Res.bind,u0s,u0w],hp2,rfl⟩⟩
 have hj2:=adv_B hp2.hi HR2.out
 go_wp2
 refine u4k rfl rfl rfl tRES ?_
 exact ⟨tGB,.inl ⟨.mk 4 0 [] a1 a2 [],j2,_,by simp only [loopR,HR1.out,HR2.out,Res.bind,u0s,u0w],hp2.keepB hE tBEL,rfl,rs_mk (name:=[]) (u7f hs1 tKP tSZ tSZ) (ss_keep hs2 tKP tSZ tSZ) u4f⟩⟩
theorem branch_any {E:Env} (hE:E.Ok) (w:World) (i:Nat) (hB:∀ j,i<j→BodyC E j) (hp0:Ps E w i) :
  Calls Tryz.prog 193 #[.pointer (some ⟨E.b,0,none⟩)] w (Fin E w (branR (E.ks.drop i)) (RsV w.heap.size)):=by
 have hsz:=hp0.sz
 have hlt:=hE.lt
 have hi0:=hp0.hi
 have HB:=hid hB
 clear hB
 go_enter Tryz.func193,Tryz.ntmps193
 go_wp2_with fail
 refine (u6k hE _ _ (hp0.keepB hE tBEL)).mono ?_
 rintro e w1 ⟨hg1,⟨a1,j1,v1,hR,hp1,rfl,⟨A1,m1,c1,rfl,hs1⟩⟩ | ⟨j1,hR,hp1,rfl⟩⟩
 all_goals (have HR1:=hid hR; clear hR; have hz:=hg1.size; (try simp only [u0c,u0i,u0p] at hz))
 all_goals (have hl:=u0a (q:=w.heap.size) hg1 tLOX tSZ; obtain ⟨_,_,_,_⟩:=hl)
 all_goals (have hl:=u0a (q:=w.heap.size+1) hg1 tLOX tSZ; obtain ⟨_,_,_,_⟩:=hl)
 rotate_left 1
 ·go_wp2
  exact ⟨rfl,tGB,.inr ⟨j1,by simp only [branR,HR1.out,Res.bind,u0s,u0w],hp1,rfl⟩⟩
 have hj1:=adv_G hp1.hi HR1.out
 go_wp2_with fail
 refine (block_any hE _ _ (fun j hj=>HB.out j (by omega)) (hp1.keepB hE tBEL)).mono ?_
 rintro e w2 ⟨hg2,⟨a2,j2,v2,hR,hp2,rfl,⟨A2,m2,c2,rfl,hs2⟩⟩ | ⟨j2,hR,hp2,rfl⟩⟩
 all_goals (have HR2:=hid hR; clear hR; have hz:=hg2.size; (try simp only [u0c,u0i,u0p] at hz))
 all_goals (have hl:=u0a (q:=w.heap.size) hg2 tLOX tSZ; obtain ⟨_,_,_,_⟩:=hl)
 all_goals (have hl:=u0a (q:=w.heap.size+1) hg2 tLOX tSZ; obtain ⟨_,_,_,_⟩:=hl)
 rotate_left 1
 ·go_wp2
  exact ⟨rfl,tGB,.inr ⟨j2,by simp only [branR,HR1.out,HR2.out,Res.bind,u0s,u0w],hp2,rfl⟩⟩
 have hj2:=adv_B hp2.hi HR2.out
 go_wp2_with fail
 refine (u1u hE _ _ (hp2.keepB hE tBEL) wElse (by decide)).mono ?_
 rintro e w3 ⟨hg3,⟨hh,rfl,hp3⟩ | ⟨hh,rfl,hp3⟩⟩
 all_goals (have HH3:=hid hh; clear hh; have hz:=hg3.size; (try simp only [u0c,u0i,u0p] at hz))
 all_goals (have hl:=u0a (q:=w.heap.size) hg3 tLOX tSZ; obtain ⟨_,_,_,_⟩:=hl)
 all_goals (have hl:=u0a (q:=w.heap.size+1) hg3 tLOX tSZ; obtain ⟨_,_,_,_⟩:=hl)
 ·have HD:=hid (show branR (E.ks.drop i)=(u6q (E.ks.drop (j2+1))).bind fun c r3=>.ok (.mk 3 0 [] a1 a2 c) r3 by simp only [branR,HR1.out,HR2.out,Res.bind,HH3.out,if_true,drop_one])
  go_wp2_with fail
  refine (block_any hE _ _ (fun j hj=>HB.out j (by omega)) (hp3.keepB hE tBEL)).mono ?_
  rintro e w4 ⟨hg4,⟨a4,j4,v4,hR,hp4,rfl,⟨A4,m4,c4,rfl,hs4⟩⟩ | ⟨j4,hR,hp4,rfl⟩⟩
  all_goals (have HR4:=hid hR; clear hR; have hz:=hg4.size; (try simp only [u0c,u0i,u0p] at hz))
  all_goals (have hl:=u0a (q:=w.heap.size) hg4 tLOX tSZ; obtain ⟨_,_,_,_⟩:=hl)
  all_goals (have hl:=u0a (q:=w.heap.size+1) hg4 tLOX tSZ; obtain ⟨_,_,_,_⟩:=hl)
  rotate_left 1
  ·go_wp2
   exact ⟨rfl,tGB,.inr ⟨j4,by simp only [HD.out,HR4.out,Res.bind,u0s,u0w],hp4,rfl⟩⟩
  have hj4:=adv_B hp4.hi HR4.out
  go_wp2
  refine u4k rfl rfl rfl tRES ?_
  exact ⟨tGB,.inl ⟨.mk 3 0 [] a1 a2 a4,j4,_,by simp only [HD.out,HR4.out,Res.bind,u0s,u0w],hp4.keepB hE tBEL,rfl,rs_mk (name:=[]) (u7f hs1 tKP tSZ tSZ) (ss_keep hs2 tKP tSZ tSZ) (ss_keep hs4 tKP tSZ tSZ)⟩⟩
 ·go_wp2
  refine u4k rfl rfl rfl tRES ?_
  exact ⟨tGB,.inl ⟨.mk 3 0 [] a1 a2 [],j2,_,by simp only [branR,HR1.out,HR2.out,Res.bind,HH3.out,Bool.false_eq_true,if_false],hp3.keepB hE tBEL,rfl,rs_mk (name:=[]) (u7f hs1 tKP tSZ tSZ) (ss_keep hs2 tKP tSZ tSZ) u4f⟩⟩
theorem result_any {E:Env} (hE:E.Ok) (w:World) (i:Nat) (hp0:Ps E w i) :
  Calls Tryz.prog 211 #[.pointer (some ⟨E.b,0,none⟩)] w (Fin E w (retR (E.ks.drop i)) (RsV w.heap.size)):=by
 have hsz:=hp0.sz
 have hlt:=hE.lt
 have hi0:=hp0.hi
 cases hs:hit [59] (E.ks.drop i)
 ·have HS:=hid hs
  clear hs
  go_enter Tryz.func211,Tryz.ntmps211
  go_wp2_with fail
  refine (u4w hE _ _ (hp0.keepB hE tBEL) [59] (by decide)).mono ?_
  rw [HS.out]
  rintro e w1 ⟨rfl,hgn⟩
  have hg1:=u1q (r:=some E.b) hgn
  have hz:=hg1.size
  (try simp only [u0c,u0i,u0p] at hz)
  have hp1:=(hp0.keepB hE tBEL).keep hE hgn
  obtain ⟨_,_,_,_⟩:=u0a (q:=w.heap.size) hg1 tLOX tSZ
  obtain ⟨_,_,_,_⟩:=u0a (q:=w.heap.size+1) hg1 tLOX tSZ
  go_wp2_with fail
  refine (u6k hE _ _ (hp1.keepB hE tBEL)).mono ?_
  rintro e w2 ⟨hg2,⟨a2,j2,v2,hR,hp2,rfl,⟨A2,m2,c2,rfl,hs2⟩⟩ | ⟨j2,hR,hp2,rfl⟩⟩
  all_goals (have HR2:=hid hR; clear hR; have hz:=hg2.size; (try simp only [u0c,u0i,u0p] at hz))
  all_goals (have hl:=u0a (q:=w.heap.size) hg2 tLOX tSZ; obtain ⟨_,_,_,_⟩:=hl)
  all_goals (have hl:=u0a (q:=w.heap.size+1) hg2 tLOX tSZ; obtain ⟨_,_,_,_⟩:=hl)
  rotate_left 1
  ·go_wp2
   exact ⟨rfl,tGB,.inr ⟨j2,by simp only [retR,HS.out,Bool.false_eq_true,if_false,HR2.out,Res.bind,u0s,u0w],hp2,rfl⟩⟩
  have hj2:=adv_G hp2.hi HR2.out
  go_wp2
  refine u4k rfl rfl rfl tRES ?_
  exact ⟨tGB,.inl ⟨.mk 7 0 [] a2 [] [],j2,_,by simp only [retR,HS.out,Bool.false_eq_true,if_false,HR2.out,Res.bind,u0s,u0w],hp2.keepB hE tBEL,rfl,rs_mk (name:=[]) (u7f hs2 tKP tSZ tSZ) u4f u4f⟩⟩
 ·have HS:=hid hs
  clear hs
  go_enter Tryz.func211,Tryz.ntmps211
  go_wp2_with fail
  refine (u4w hE _ _ (hp0.keepB hE tBEL) [59] (by decide)).mono ?_
  rw [HS.out]
  rintro e w1 ⟨rfl,hgn⟩
  have hg1:=u1q (r:=some E.b) hgn
  have hz:=hg1.size
  (try simp only [u0c,u0i,u0p] at hz)
  have hp1:=(hp0.keepB hE tBEL).keep hE hgn
  obtain ⟨_,_,_,_⟩:=u0a (q:=w.heap.size) hg1 tLOX tSZ
  obtain ⟨_,_,_,_⟩:=u0a (q:=w.heap.size+1) hg1 tLOX tSZ
  go_wp2
  refine u4k rfl rfl rfl tRES ?_
  exact ⟨tGB,.inl ⟨.mk 7 0 [] [] [] [],i,_,by simp only [retR,HS.out,if_true],hp1.keepB hE tBEL,rfl,rs_mk (name:=[]) u7l u4f u4f⟩⟩
theorem assignment_any {E:Env} (hE:E.Ok) (w:World) (i:Nat) (hp0:Ps E w i) :
  Calls Tryz.prog 214 #[.pointer (some ⟨E.b,0,none⟩)] w (Fin E w (asgR (E.ks.drop i)) (RsV w.heap.size)):=by
 have hsz:=hp0.sz
 have hlt:=hE.lt
 have hi0:=hp0.hi
 go_enter Tryz.func214,Tryz.ntmps214
 go_wp2_with fail
 refine (name_any hE _ _ (hp0.keepB hE tBEL)).mono ?_
 rintro e w1 ⟨hg1,⟨a1,j1,v1,hR,hp1,rfl,rfl⟩ | ⟨j1,hR,hp1,rfl⟩⟩
 all_goals (have HR1:=hid hR; clear hR; have hz:=hg1.size; (try simp only [u0c,u0i,u0p] at hz))
 all_goals (have hl:=u0a (q:=w.heap.size) hg1 tLOX tSZ; obtain ⟨_,_,_,_⟩:=hl)
 all_goals (have hl:=u0a (q:=w.heap.size+1) hg1 tLOX tSZ; obtain ⟨_,_,_,_⟩:=hl)
 rotate_left 1
 ·go_wp2
  exact ⟨rfl,tGB,.inr ⟨j1,by simp only [asgR,HR1.out,Res.bind,u0s,u0w],hp1,rfl⟩⟩
 have hj1:=adv_N hp1.hi HR1.out
 cases hs:hit [91] (E.ks.drop j1)
 ·have HS:=hid hs
  clear hs
  go_wp2_with fail
  refine (u4w hE _ _ (hp1.keepB hE tBEL) [91] (by decide)).mono ?_
  rw [HS.out]
  rintro e w2 ⟨rfl,hgn⟩
  have hg2:=u1q (r:=some E.b) hgn
  have hz:=hg2.size
  (try simp only [u0c,u0i,u0p] at hz)
  have hp2:=(hp1.keepB hE tBEL).keep hE hgn
  obtain ⟨_,_,_,_⟩:=u0a (q:=w.heap.size) hg2 tLOX tSZ
  obtain ⟨_,_,_,_⟩:=u0a (q:=w.heap.size+1) hg2 tLOX tSZ
  have HD:=hid (show asgR (E.ks.drop i)=setR a1 (E.ks.drop j1) by simp only [asgR,HR1.out,Res.bind,HS.out,Bool.false_eq_true,if_false])
  go_wp2_with fail
  refine (u1o hE _ _ (hp2.keepB hE tBEL) [61] (by decide)).mono ?_
  rintro e w3 ⟨hg3,⟨a3,j3,v3,hR,hp3,rfl,rfl⟩ | ⟨j3,hR,hp3,rfl⟩⟩
  all_goals (have HR3:=hid hR; clear hR; have hz:=hg3.size; (try simp only [u0c,u0i,u0p] at hz))
  all_goals (have hl:=u0a (q:=w.heap.size) hg3 tLOX tSZ; obtain ⟨_,_,_,_⟩:=hl)
  all_goals (have hl:=u0a (q:=w.heap.size+1) hg3 tLOX tSZ; obtain ⟨_,_,_,_⟩:=hl)
  rotate_left 1
  ·go_wp2
   exact ⟨rfl,tGB,.inr ⟨j3,by simp only [HD.out,setR,HR3.out,Res.bind,u0s,u0w],hp3,rfl⟩⟩
  have hj3:=u6h hp3.hi HR3.out
  go_wp2_with fail
  refine (u6k hE _ _ (hp3.keepB hE tBEL)).mono ?_
  rintro e w4 ⟨hg4,⟨a4,j4,v4,hR,hp4,rfl,⟨A4,m4,c4,rfl,hs4⟩⟩ | ⟨j4,hR,hp4,rfl⟩⟩
  all_goals (have HR4:=hid hR; clear hR; have hz:=hg4.size; (try simp only [u0c,u0i,u0p] at hz))
  all_goals (have hl:=u0a (q:=w.heap.size) hg4 tLOX tSZ; obtain ⟨_,_,_,_⟩:=hl)
  all_goals (have hl:=u0a (q:=w.heap.size+1) hg4 tLOX tSZ; obtain ⟨_,_,_,_⟩:=hl)
  rotate_left 1
  ·go_wp2
   exact ⟨rfl,tGB,.inr ⟨j4,by simp only [HD.out,setR,HR3.out,HR4.out,Res.bind,u0s,u0w],hp4,rfl⟩⟩
  have hj4:=adv_G hp4.hi HR4.out
  go_wp2
  refine u4k rfl rfl rfl tRES ?_
  exact ⟨tGB,.inl ⟨.mk 1 0 a1 a4 [] [],j4,_,by simp only [HD.out,setR,HR3.out,HR4.out,Res.bind,u0s,u0w],hp4.keepB hE tBEL,rfl,rs_mk (u7f hs4 tKP tSZ tSZ) u4f u4f⟩⟩
 ·have HS:=hid hs
  clear hs
  go_wp2_with fail
  refine (u4w hE _ _ (hp1.keepB hE tBEL) [91] (by decide)).mono ?_
  rw [HS.out]
  rintro e w2 ⟨rfl,hgn⟩
  have hg2:=u1q (r:=some E.b) hgn
  have hz:=hg2.size
  (try simp only [u0c,u0i,u0p] at hz)
  have hp2:=(hp1.keepB hE tBEL).keep hE hgn
  obtain ⟨_,_,_,_⟩:=u0a (q:=w.heap.size) hg2 tLOX tSZ
  obtain ⟨_,_,_,_⟩:=u0a (q:=w.heap.size+1) hg2 tLOX tSZ
  have HD:=hid (show asgR (E.ks.drop i)=putR a1 (E.ks.drop j1) by simp only [asgR,HR1.out,Res.bind,HS.out,if_true])
  go_wp2_with fail
  refine (cell_any hE _ _ [61] (by decide) (hp2.keepB hE tBEL)).mono ?_
  rintro e w3 ⟨hg3,⟨a3,j3,v3,hR,hp3,rfl,⟨A3,m3,c3,rfl,hs3⟩⟩ | ⟨j3,hR,hp3,rfl⟩⟩
  all_goals (have HR3:=hid hR; clear hR; have hz:=hg3.size; (try simp only [u0c,u0i,u0p] at hz))
  all_goals (have hl:=u0a (q:=w.heap.size) hg3 tLOX tSZ; obtain ⟨_,_,_,_⟩:=hl)
  all_goals (have hl:=u0a (q:=w.heap.size+1) hg3 tLOX tSZ; obtain ⟨_,_,_,_⟩:=hl)
  rotate_left 1
  ·go_wp2
   exact ⟨rfl,tGB,.inr ⟨j3,by simp only [HD.out,putR,HR3.out,Res.bind,u0s,u0w],hp3,rfl⟩⟩
  have hj3:=adv_C hp3.hi HR3.out
  go_wp2
  refine u4k rfl rfl rfl tRES ?_
  exact ⟨tGB,.inl ⟨.mk 2 0 a1 a3 [] [],j3,_,by simp only [HD.out,putR,HR3.out,Res.bind,u0s,u0w],hp3.keepB hE tBEL,rfl,rs_mk (u7f hs3 tKP tSZ tSZ) u4f u4f⟩⟩
theorem simple_any {E:Env} (hE:E.Ok) (w:World) (i:Nat) (hp0:Ps E w i) :
  Calls Tryz.prog 195 #[.pointer (some ⟨E.b,0,none⟩)] w (Fin E w (smpR (E.ks.drop i)) (RsV w.heap.size)):=by
 have hsz:=hp0.sz
 have hlt:=hE.lt
 have hi0:=hp0.hi
 go_enter Tryz.func195,Tryz.ntmps195
 go_wp2_with fail
 refine (u1u hE _ _ (hp0.keepB hE tBEL) wLet (by decide)).mono ?_
 rintro e w1 ⟨hg1,⟨hh,rfl,hp1⟩ | ⟨hh,rfl,hp1⟩⟩
 all_goals (have HH1:=hid hh; clear hh; have hz:=hg1.size; (try simp only [u0c,u0i,u0p] at hz))
 all_goals (have hl:=u0a (q:=w.heap.size) hg1 tLOX tSZ; obtain ⟨_,_,_,_⟩:=hl)
 ·have HD:=hid (show smpR (E.ks.drop i)=letR (E.ks.drop (i+1)) by simp only [smpR,HH1.out,if_true,drop_one])
  go_wp2_with fail
  refine (let_any hE _ _ (hp1.keepB hE tBEL)).mono ?_
  rintro e w2 ⟨hg2,⟨a,j,v,hR,hp2,rfl,⟨sk,so,sx,A,m,c,B,m1,c1,C,m2,c2,rfl,ha⟩⟩ | ⟨j,hR,hp2,rfl⟩⟩
  all_goals (have HR2:=hid hR; clear hR; have hz:=hg2.size; (try simp only [u0c,u0i,u0p] at hz))
  all_goals (have hl:=u0a (q:=w.heap.size) hg2 tLOX tSZ; obtain ⟨_,_,_,_⟩:=hl)
  ·go_wp2
   refine u4k rfl rfl rfl tRES ?_
   exact ⟨tGB,.inl ⟨a,j,_,by rw [HD.out,HR2.out],hp2.keepB hE tBEL,rfl,⟨sk,so,sx,A,m,c,B,m1,c1,C,m2,c2,rfl,u7y ha tKP tSZ tSZ⟩⟩⟩
  ·go_wp2
   exact ⟨rfl,tGB,.inr ⟨j,by rw [HD.out,HR2.out],hp2,rfl⟩⟩
 ·have _hx1:=hp1.hi
  go_wp2_with fail
  refine (u1u hE _ _ (hp1.keepB hE tBEL) wBreak (by decide)).mono ?_
  rintro e w2 ⟨hg2,⟨hh,rfl,hp2⟩ | ⟨hh,rfl,hp2⟩⟩
  all_goals (have HH2:=hid hh; clear hh; have hz:=hg2.size; (try simp only [u0c,u0i,u0p] at hz))
  all_goals (have hl:=u0a (q:=w.heap.size) hg2 tLOX tSZ; obtain ⟨_,_,_,_⟩:=hl)
  ·go_wp2
   refine u4k rfl rfl rfl tRES ?_
   exact ⟨tGB,.inl ⟨.mk 5 0 [] [] [] [],i+1,_,by simp only [smpR,HH1.out,HH2.out,Bool.false_eq_true,if_false,if_true,drop_one],hp2.keepB hE tBEL,rfl,rs_mk (name:=[]) u7l u4f u4f⟩⟩
  ·have _hx2:=hp2.hi
   go_wp2_with fail
   refine (u1u hE _ _ (hp2.keepB hE tBEL) u5s (by decide)).mono ?_
   rintro e w3 ⟨hg3,⟨hh,rfl,hp3⟩ | ⟨hh,rfl,hp3⟩⟩
   all_goals (have HH3:=hid hh; clear hh; have hz:=hg3.size; (try simp only [u0c,u0i,u0p] at hz))
   all_goals (have hl:=u0a (q:=w.heap.size) hg3 tLOX tSZ; obtain ⟨_,_,_,_⟩:=hl)
   ·go_wp2
    refine u4k rfl rfl rfl tRES ?_
    exact ⟨tGB,.inl ⟨.mk 6 0 [] [] [] [],i+1,_,by simp only [smpR,HH1.out,HH2.out,HH3.out,Bool.false_eq_true,if_false,if_true,drop_one],hp3.keepB hE tBEL,rfl,rs_mk (name:=[]) u7l u4f u4f⟩⟩
   ·have _hx3:=hp3.hi
    go_wp2_with fail
    refine (u1u hE _ _ (hp3.keepB hE tBEL) u6l (by decide)).mono ?_
    rintro e w4 ⟨hg4,⟨hh,rfl,hp4⟩ | ⟨hh,rfl,hp4⟩⟩
    all_goals (have HH4:=hid hh; clear hh; have hz:=hg4.size; (try simp only [u0c,u0i,u0p] at hz))
    all_goals (have hl:=u0a (q:=w.heap.size) hg4 tLOX tSZ; obtain ⟨_,_,_,_⟩:=hl)
    ·have HD:=hid (show smpR (E.ks.drop i)=retR (E.ks.drop (i+1)) by simp only [smpR,HH1.out,HH2.out,HH3.out,HH4.out,Bool.false_eq_true,if_false,if_true,drop_one])
     go_wp2_with fail
     refine (result_any hE _ _ (hp4.keepB hE tBEL)).mono ?_
     rintro e w5 ⟨hg5,⟨a,j,v,hR,hp5,rfl,⟨sk,so,sx,A,m,c,B,m1,c1,C,m2,c2,rfl,ha⟩⟩ | ⟨j,hR,hp5,rfl⟩⟩
     all_goals (have HR5:=hid hR; clear hR; have hz:=hg5.size; (try simp only [u0c,u0i,u0p] at hz))
     all_goals (have hl:=u0a (q:=w.heap.size) hg5 tLOX tSZ; obtain ⟨_,_,_,_⟩:=hl)
     ·go_wp2
      refine u4k rfl rfl rfl tRES ?_
      exact ⟨tGB,.inl ⟨a,j,_,by rw [HD.out,HR5.out],hp5.keepB hE tBEL,rfl,⟨sk,so,sx,A,m,c,B,m1,c1,C,m2,c2,rfl,u7y ha tKP tSZ tSZ⟩⟩⟩
     ·go_wp2
      exact ⟨rfl,tGB,.inr ⟨j,by rw [HD.out,HR5.out],hp5,rfl⟩⟩
    ·have _hx4:=hp4.hi
     go_wp2_with fail
     refine (u1u hE _ _ (hp4.keepB hE tBEL) u6x (by decide)).mono ?_
     rintro e w5 ⟨hg5,⟨hh,rfl,hp5⟩ | ⟨hh,rfl,hp5⟩⟩
     all_goals (have HH5:=hid hh; clear hh; have hz:=hg5.size; (try simp only [u0c,u0i,u0p] at hz))
     all_goals (have hl:=u0a (q:=w.heap.size) hg5 tLOX tSZ; obtain ⟨_,_,_,_⟩:=hl)
     ·go_wp2
      refine u4k rfl rfl rfl tRES ?_
      exact ⟨tGB,.inl ⟨.mk 8 0 [] [] [] [],i+1,_,by simp only [smpR,HH1.out,HH2.out,HH3.out,HH4.out,HH5.out,Bool.false_eq_true,if_false,if_true,drop_one],hp5.keepB hE tBEL,rfl,rs_mk (name:=[]) u7l u4f u4f⟩⟩
     ·have _hx5:=hp5.hi
      go_wp2_with fail
      refine (u1u hE _ _ (hp5.keepB hE tBEL) wAtomic (by decide)).mono ?_
      rintro e w6 ⟨hg6,⟨hh,rfl,hp6⟩ | ⟨hh,rfl,hp6⟩⟩
      all_goals (have HH6:=hid hh; clear hh; have hz:=hg6.size; (try simp only [u0c,u0i,u0p] at hz))
      all_goals (have hl:=u0a (q:=w.heap.size) hg6 tLOX tSZ; obtain ⟨_,_,_,_⟩:=hl)
      ·have HD:=hid (show smpR (E.ks.drop i)=atomR (E.ks.drop (i+1)) by simp only [smpR,HH1.out,HH2.out,HH3.out,HH4.out,HH5.out,HH6.out,Bool.false_eq_true,if_false,if_true,drop_one])
       go_wp2_with fail
       refine (atomic_any hE _ _ (hp6.keepB hE tBEL)).mono ?_
       rintro e w7 ⟨hg7,⟨a,j,v,hR,hp7,rfl,⟨sk,so,sx,A,m,c,B,m1,c1,C,m2,c2,rfl,ha⟩⟩ | ⟨j,hR,hp7,rfl⟩⟩
       all_goals (have HR7:=hid hR; clear hR; have hz:=hg7.size; (try simp only [u0c,u0i,u0p] at hz))
       all_goals (have hl:=u0a (q:=w.heap.size) hg7 tLOX tSZ; obtain ⟨_,_,_,_⟩:=hl)
       ·go_wp2
        refine u4k rfl rfl rfl tRES ?_
        exact ⟨tGB,.inl ⟨a,j,_,by rw [HD.out,HR7.out],hp7.keepB hE tBEL,rfl,⟨sk,so,sx,A,m,c,B,m1,c1,C,m2,c2,rfl,u7y ha tKP tSZ tSZ⟩⟩⟩
       ·go_wp2
        exact ⟨rfl,tGB,.inr ⟨j,by rw [HD.out,HR7.out],hp7,rfl⟩⟩
      ·have _hx6:=hp6.hi
       go_wp2_with fail
       refine (u1u hE _ _ (hp6.keepB hE tBEL) u6w (by decide)).mono ?_
       rintro e w7 ⟨hg7,⟨hh,rfl,hp7⟩ | ⟨hh,rfl,hp7⟩⟩
       all_goals (have HH7:=hid hh; clear hh; have hz:=hg7.size; (try simp only [u0c,u0i,u0p] at hz))
       all_goals (have hl:=u0a (q:=w.heap.size) hg7 tLOX tSZ; obtain ⟨_,_,_,_⟩:=hl)
       ·have HD:=hid (show smpR (E.ks.drop i)=colR (E.ks.drop (i+1)) by simp only [smpR,HH1.out,HH2.out,HH3.out,HH4.out,HH5.out,HH6.out,HH7.out,Bool.false_eq_true,if_false,if_true,drop_one])
        go_wp2_with fail
        refine (collect_any hE _ _ (hp7.keepB hE tBEL)).mono ?_
        rintro e w8 ⟨hg8,⟨a,j,v,hR,hp8,rfl,⟨sk,so,sx,A,m,c,B,m1,c1,C,m2,c2,rfl,ha⟩⟩ | ⟨j,hR,hp8,rfl⟩⟩
        all_goals (have HR8:=hid hR; clear hR; have hz:=hg8.size; (try simp only [u0c,u0i,u0p] at hz))
        all_goals (have hl:=u0a (q:=w.heap.size) hg8 tLOX tSZ; obtain ⟨_,_,_,_⟩:=hl)
        ·go_wp2
         refine u4k rfl rfl rfl tRES ?_
         exact ⟨tGB,.inl ⟨a,j,_,by rw [HD.out,HR8.out],hp8.keepB hE tBEL,rfl,⟨sk,so,sx,A,m,c,B,m1,c1,C,m2,c2,rfl,u7y ha tKP tSZ tSZ⟩⟩⟩
        ·go_wp2
         exact ⟨rfl,tGB,.inr ⟨j,by rw [HD.out,HR8.out],hp8,rfl⟩⟩
       ·have _hx7:=hp7.hi
        have HD:=hid (show smpR (E.ks.drop i)=asgR (E.ks.drop i) by simp only [smpR,HH1.out,HH2.out,HH3.out,HH4.out,HH5.out,HH6.out,HH7.out,Bool.false_eq_true,if_false])
        go_wp2_with fail
        refine (assignment_any hE _ _ (hp7.keepB hE tBEL)).mono ?_
        rintro e w8 ⟨hg8,⟨a,j,v,hR,hp8,rfl,⟨sk,so,sx,A,m,c,B,m1,c1,C,m2,c2,rfl,ha⟩⟩ | ⟨j,hR,hp8,rfl⟩⟩
        all_goals (have HR8:=hid hR; clear hR; have hz:=hg8.size; (try simp only [u0c,u0i,u0p] at hz))
        all_goals (have hl:=u0a (q:=w.heap.size) hg8 tLOX tSZ; obtain ⟨_,_,_,_⟩:=hl)
        ·go_wp2
         refine u4k rfl rfl rfl tRES ?_
         exact ⟨tGB,.inl ⟨a,j,_,by rw [HD.out,HR8.out],hp8.keepB hE tBEL,rfl,⟨sk,so,sx,A,m,c,B,m1,c1,C,m2,c2,rfl,u7y ha tKP tSZ tSZ⟩⟩⟩
        ·go_wp2
         exact ⟨rfl,tGB,.inr ⟨j,by rw [HD.out,HR8.out],hp8,rfl⟩⟩
theorem statement_any {E:Env} (hE:E.Ok) (w:World) (i:Nat) (hB:∀ j,i<j→BodyC E j) (hp0:Ps E w i) :
  Calls Tryz.prog 174 #[.pointer (some ⟨E.b,0,none⟩)] w (Fin E w (stmtR (E.ks.drop i)) (RsV w.heap.size)):=by
 have hsz:=hp0.sz
 have hlt:=hE.lt
 have hi0:=hp0.hi
 have HB:=hid hB
 clear hB
 go_enter Tryz.func174,Tryz.ntmps174
 go_wp2_with fail
 refine (u1u hE _ _ (hp0.keepB hE tBEL) wIf (by decide)).mono ?_
 rintro e w1 ⟨hg1,⟨hh,rfl,hp1⟩ | ⟨hh,rfl,hp1⟩⟩
 all_goals (have HH1:=hid hh; clear hh; have hz:=hg1.size; (try simp only [u0c,u0i,u0p] at hz))
 all_goals (have hl:=u0a (q:=w.heap.size) hg1 tLOX tSZ; obtain ⟨_,_,_,_⟩:=hl)
 ·have HD:=hid (show stmtR (E.ks.drop i)=branR (E.ks.drop (i+1)) by simp only [stmtR,HH1.out,if_true,drop_one])
  go_wp2_with fail
  refine (branch_any hE _ _ (fun j hj=>HB.out j (by omega)) (hp1.keepB hE tBEL)).mono ?_
  rintro e w2 ⟨hg2,⟨a,j,v,hR,hp2,rfl,⟨sk,so,sx,A,m,c,B,m1,c1,C,m2,c2,rfl,ha⟩⟩ | ⟨j,hR,hp2,rfl⟩⟩
  all_goals (have HR2:=hid hR; clear hR; have hz:=hg2.size; (try simp only [u0c,u0i,u0p] at hz))
  all_goals (have hl:=u0a (q:=w.heap.size) hg2 tLOX tSZ; obtain ⟨_,_,_,_⟩:=hl)
  ·go_wp2
   refine u4k rfl rfl rfl tRES ?_
   exact ⟨tGB,.inl ⟨a,j,_,by rw [HD.out,HR2.out],hp2.keepB hE tBEL,rfl,⟨sk,so,sx,A,m,c,B,m1,c1,C,m2,c2,rfl,u7y ha tKP tSZ tSZ⟩⟩⟩
  ·go_wp2
   exact ⟨rfl,tGB,.inr ⟨j,by rw [HD.out,HR2.out],hp2,rfl⟩⟩
 ·have _hx1:=hp1.hi
  go_wp2_with fail
  refine (u1u hE _ _ (hp1.keepB hE tBEL) wWhile (by decide)).mono ?_
  rintro e w2 ⟨hg2,⟨hh,rfl,hp2⟩ | ⟨hh,rfl,hp2⟩⟩
  all_goals (have HH2:=hid hh; clear hh; have hz:=hg2.size; (try simp only [u0c,u0i,u0p] at hz))
  all_goals (have hl:=u0a (q:=w.heap.size) hg2 tLOX tSZ; obtain ⟨_,_,_,_⟩:=hl)
  ·have HD:=hid (show stmtR (E.ks.drop i)=loopR (E.ks.drop (i+1)) by simp only [stmtR,HH1.out,HH2.out,Bool.false_eq_true,if_false,if_true,drop_one])
   go_wp2_with fail
   refine (loop_any hE _ _ (fun j hj=>HB.out j (by omega)) (hp2.keepB hE tBEL)).mono ?_
   rintro e w3 ⟨hg3,⟨a,j,v,hR,hp3,rfl,⟨sk,so,sx,A,m,c,B,m1,c1,C,m2,c2,rfl,ha⟩⟩ | ⟨j,hR,hp3,rfl⟩⟩
   all_goals (have HR3:=hid hR; clear hR; have hz:=hg3.size; (try simp only [u0c,u0i,u0p] at hz))
   all_goals (have hl:=u0a (q:=w.heap.size) hg3 tLOX tSZ; obtain ⟨_,_,_,_⟩:=hl)
   ·go_wp2
    refine u4k rfl rfl rfl tRES ?_
    exact ⟨tGB,.inl ⟨a,j,_,by rw [HD.out,HR3.out],hp3.keepB hE tBEL,rfl,⟨sk,so,sx,A,m,c,B,m1,c1,C,m2,c2,rfl,u7y ha tKP tSZ tSZ⟩⟩⟩
   ·go_wp2
    exact ⟨rfl,tGB,.inr ⟨j,by rw [HD.out,HR3.out],hp3,rfl⟩⟩
  ·have HD:=hid (show stmtR (E.ks.drop i)=endR (E.ks.drop i) by simp only [stmtR,HH1.out,HH2.out,Bool.false_eq_true,if_false])
   go_wp2_with fail
   refine (simple_any hE _ _ (hp2.keepB hE tBEL)).mono ?_
   rintro e w3 ⟨hg3,⟨a,j,v,hR,hp3,rfl,⟨sk,so,sx,A,m,c,B,m1,c1,C,m2,c2,rfl,ha⟩⟩ | ⟨j,hR,hp3,rfl⟩⟩
   all_goals (have HR3:=hid hR; clear hR; have hz:=hg3.size; (try simp only [u0c,u0i,u0p] at hz))
   all_goals (have hl:=u0a (q:=w.heap.size) hg3 tLOX tSZ; obtain ⟨_,_,_,_⟩:=hl)
   rotate_left 1
   ·go_wp2
    exact ⟨rfl,tGB,.inr ⟨j,by simp only [HD.out,endR,HR3.out,Res.bind],hp3,rfl⟩⟩
   go_wp2_with fail
   refine (u1o hE _ _ (hp3.keepB hE tBEL) [59] (by decide)).mono ?_
   rintro e w4 ⟨hg4,⟨u,j4,v,hR,hp4,rfl,rfl⟩ | ⟨j4,hR,hp4,rfl⟩⟩
   all_goals (have HR4:=hid hR; clear hR; have hz:=hg4.size; (try simp only [u0c,u0i,u0p] at hz))
   all_goals (have hl:=u0a (q:=w.heap.size) hg4 tLOX tSZ; obtain ⟨_,_,_,_⟩:=hl)
   all_goals (have hl:=u0a (q:=w3.heap.size) hg4 tLOX tSZ; obtain ⟨_,_,_,_⟩:=hl)
   ·go_wp2
    refine u4k rfl rfl rfl tRES ?_
    exact ⟨tGB,.inl ⟨a,j4,_,by simp only [HD.out,endR,HR3.out,HR4.out,Res.bind],hp4.keepB hE tBEL,rfl,⟨sk,so,sx,A,m,c,B,m1,c1,C,m2,c2,rfl,u7y ha tKP tSZ tSZ⟩⟩⟩
   ·go_wp2
    exact ⟨rfl,tGB,.inr ⟨j4,by simp only [HD.out,endR,HR3.out,HR4.out,Res.bind],hp4,rfl⟩⟩
end Go.Proofs.YtbkhnilbgocpnaaGreatDoor.SynC
