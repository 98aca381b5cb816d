import Derived.StillTailTactics
import Derived.Deep.QuietTactic
import Derived.Deep.Slices
import Derived.OpenShut
import Derived.SizedLaws
import Derived.BigQuiet
import Derived.IntWalk
import Derived.Test.YtbkhnilbgocpnaaGreatDoorY0
import Derived.Test.YtbkhnilbgocpnaaGreatDoorY18
set_option linter.unusedVariables false
set_option linter.unusedSimpArgs false
set_option maxRecDepth 100000
set_option maxHeartbeats 2000000
open Go.Lib (hid)
namespace Go.Proofs.YtbkhnilbgocpnaaGreatDoor.SynC
open Go.Proofs.YtbkhnilbgocpnaaGreatDoor.LexC
open Go Go.ChangeShapes Go.WideShapes Go.ChangeAt Go.RowKit Go.Deep
def validE (a:Ex):Bool:=fitE u0f 0 1 a
def exprM (s:List UInt8):Ex × Int × Int :=
 let r:=u4x (Ex.mk 0 0 0 [] []) (PE (.ex 1)) s
 if r.2.2 == 0&&!validE r.1 then (Ex.mk 0 0 0 [] [],0,5) else r
def u9i (s:List UInt8):Pg × Int × Int :=
 let r:=u4x (⟨[],[]⟩:Pg) progR s
 if r.2.2 == 0&&!u2p r.1 then (⟨[],[]⟩,0,5) else r
def wriE (a:Ex):List UInt8:=txt (tE dgL a)
def textE (a:Ex):List UInt8 × Int:=if validE a then (wriE a,0) else ([],1)
theorem fitE_room {a:Ex} (h:fitE u0f 0 1 a=true):(tE dgL a).length≤100000∧(txt (tE dgL a)).length≤1000000:=by
 unfold fitE at h
 simp only [Bool.and_eq_true,decide_eq_true_eq] at h
 have h1:=tE_len u0f a h.1.1
 have h2:=txt_len _ (sm_E a (by rw [← nm_eq]; exact h.1.1))
 exact ⟨by omega,by omega⟩
theorem mem_le_sum:∀ (l:List Nat) (x:Nat),x∈l→x≤l.sum
 | a :: l,x,h=>by
  rw [List.sum_cons]
  rcases List.mem_cons.1 h with rfl | h
  ·omega
  ·have:=mem_le_sum l x h; omega
theorem key_rg {l:List UInt8} {i:Nat} (h4:l.length≤4000):KRs ((sc l i).1.map key):=by
 intro k hk
 obtain ⟨t,ht,rfl⟩:=List.mem_map.1 hk
 obtain ⟨_,_,_,_,h1,h2⟩:=sc_wf (l:=l) (i:=i) t ht
 have h3:=scan_sum l.length l i
 have h5:t.text.length≤((scan l.length l i).1.map (·.text.length)).sum:=mem_le_sum _ _ (List.mem_map.2 ⟨t,ht,rfl⟩)
 refine ⟨?_,h1,?_⟩
 ·show t.text.length≤maxLen
  unfold maxLen; omega
 ·show t.num<2147483648
  omega
theorem key_len {l:List UInt8} {i:Nat} (h4:l.length≤4000):((sc l i).1.map key).length≤4000:=by
 have:=sc_count l i
 rw [List.length_map]; omega
theorem parseM_ok {α:Type} {zero:α} {one:List K→Res α} {s:List UInt8} {a:α} {i:Int} (h:(a,i,0)=u4x zero one s):s.length≤4000∧i=0∧(sc s 0).2=none∧whole (one ((sc s 0).1.map key))=.ok a []:=by
 unfold u4x at h
 split at h
 ·simp at h
 ·rename_i h4
  split at h
  ·simp at h
  ·rename_i hn
   unfold outM at h
   split at h
   ·rename_i b r hw
    simp only [Prod.mk.injEq] at h
    refine ⟨by omega,h.2.1,hn,?_⟩
    rw [hw,h.1]
    congr 1
    unfold whole at hw
    obtain ⟨c,q,_,e⟩:=u0t hw
    split at e
    ·cases e; rfl
    ·cases e
   ·simp at h
theorem whole_ok {α:Type} {R:Res α} {a:α} {r:List K} (h:whole R=.ok a r):R=.ok a []:=by
 unfold whole at h
 obtain ⟨c,q,h1,e⟩:=u0t h
 split at e
 ·rename_i hq
  cases e
  rw [h1]
  congr 1
  simpa using hq
 ·cases e
theorem exprP_rg {s:List UInt8} {a:Ex} {i:Int} (h:(a,i,0)=u4x (Ex.mk 0 0 0 [] []) (PE (.ex 1)) s):rgE a:=by
 obtain ⟨h4,_,_,hw⟩:=parseM_ok h
 have hl:=key_len (i:=0) h4
 exact PE_rg (key_rg h4) (by omega) (whole_ok hw)
theorem progP_rgs {s:List UInt8} {q:Pg} {i:Int} (h:(q,i,0)=u4x (⟨[],[]⟩:Pg) progR s):(∀ f∈q.fns,rgF f)∧(∀ f∈q.krs,rgK f)∧q.fns.length+q.krs.length≤4000:=by
 obtain ⟨h4,_,_,hw⟩:=parseM_ok h
 have hl:=key_len (i:=0) h4
 obtain ⟨is,r,h1,e⟩:=u0t (whole_ok hw)
 cases e
 obtain ⟨h2,h3⟩:=PP_rg (key_rg h4) (by omega) h1
 obtain ⟨g1,g2,g3⟩:=pg_rg h2
 exact ⟨g1,g2,by omega⟩
theorem zero_rg:rgE (Ex.mk 0 0 0 [] []):=rg0 _ _ _ (by omega)
theorem ret_x3 {fn:Func} {R:Ending→World→Prop} {a:Act} {W:World} {q s s' s2:Nat} {v0 v1 v2 v3 v4 x y:Value} {fr:Nat × Nat} (hr:fn.results=#[ResultVar.cell s 34,.tmp s',.tmp s2]) (hd:a.defers=[])
  (hs:a.tmps.getD s undef=.pointer (some ⟨q,0,none⟩)) (hs':a.tmps.getD s' undef=x) (hs2:a.tmps.getD s2 undef=y) (hq:W.heap[q]? = some (Obj.cells #[v0,v1,v2,v3,v4] 34 fr)) (h:R (.returned (.tuple #[.agg #[v0,v1,v2,v3,v4],x,y])) W):bodyPost Tryz.prog fn R Exit.ret a W:=by
 have c:∀ j,W.cell? ⟨q,j,none⟩=#[v0,v1,v2,v3,v4][j]?:=fun j=>cell_of_row _ _ j _ _ _ hq
 refine bodyPost_ret (v:=.tuple #[.agg #[v0,v1,v2,v3,v4],x,y]) ?_ hd h
 rw [Array.getD_eq_getD_getElem?] at hs hs' hs2
 simp [results,hr,go_sem,hs,hs',hs2,c]
theorem ret_p3 {fn:Func} {R:Ending→World→Prop} {a:Act} {W:World} {q s s' s2:Nat} {v0 v1 x y:Value} {fr:Nat × Nat} (hr:fn.results=#[ResultVar.cell s 26,.tmp s',.tmp s2]) (hd:a.defers=[])
  (hs:a.tmps.getD s undef=.pointer (some ⟨q,0,none⟩)) (hs':a.tmps.getD s' undef=x) (hs2:a.tmps.getD s2 undef=y) (hq:W.heap[q]? = some (Obj.cells #[v0,v1] 26 fr)) (h:R (.returned (.tuple #[.agg #[v0,v1],x,y])) W):bodyPost Tryz.prog fn R Exit.ret a W:=by
 have c:∀ j,W.cell? ⟨q,j,none⟩=#[v0,v1][j]?:=fun j=>cell_of_row _ _ j _ _ _ hq
 refine bodyPost_ret (v:=.tuple #[.agg #[v0,v1],x,y]) ?_ hd h
 rw [Array.getD_eq_getD_getElem?] at hs hs' hs2
 simp [results,hr,go_sem,hs,hs',hs2,c]
def ExprOut (s:ByteArray) (w:World) (e:Ending) (w':World):Prop:=Below w.heap.size w w'∧∃ v a i er,e=.returned (.tuple #[v,.int .i64 i,.int .i64 er])∧RxV w.heap.size w' v a∧rgE a∧(a,i,er)=exprM s.data.toList
theorem expr_18 (s:ByteArray) (hs:s.size≤maxLen) (w:World) (hG:Gl w):Calls Tryz.prog 18 #[.string s] w (ExprOut s w):=by
 have HG:=hid hG
 clear hG
 have hz10:=HG.out.z
 go_enter Tryz.func18,Tryz.ntmps18
 go_wp2_with fail
 refine (parseE_any s hs _ (HG.out.alloc _).glob (HG.out.alloc _).z).mono ?_
 rintro e w1 ⟨hb1,v,a,i,er,rfl,⟨ak,ao,an,ax,aA,am,ac,rfl,hre⟩,hM⟩
 obtain ⟨_,_,_,l0⟩:=u0a (q:=w.heap.size) (u0d hb1 (some 0)) tLOC (by omega)
 have HB1:=hid (seq (u0j _ _) hb1)
 have hz1:=hb1.size
 simp only [u0e] at hz1 hre
 have HRE:=hid hre
 have HM:=hid hM
 clear hb1 hre hM
 have hval:∀ w',rgE a→Below w1.heap.size w1 w'→Calls Tryz.prog 48 #[.agg #[.int .i64 ak,.int .i64 ao,.int .i32 an,.string (bs ax),.slice aA am ac]] w' fun e w2=>e=.returned (.bool (validE a))∧Below w'.heap.size w' w2:=fun w' hrg h =>
  u9q a w' _ _ _ _ _ _ _ (by have:=h.size; omega) (HG.out.bel (seq HB1.out h)).tabs.exs (RE.keeps (u0w h fun _ hb=>hb.2) (fun _ hb=>Nat.lt_of_lt_of_le hb.2 h.size) _ _ HRE.out) hrg
 have HVAL:=hid hval
 clear hval
 have hkeep:∀ w',Kp (w.heap.size+1) w1 w'→w1.heap.size≤w'.heap.size→RE w' (fun g=>w.heap.size≤g∧g<w'.heap.size) [.int .i64 ak,.int .i64 ao,.int .i32 an,.string (bs ax),.slice aA am ac] a:=fun w' k hz=>u1s HRE.out k (by omega) hz
 have HKEEP:=hid hkeep
 clear hkeep
 have HL0:=hid l0
 clear l0
 by_cases h0:er=0
 ·subst h0
  have hrg:=exprP_rg HM.out
  have HRG:=hid hrg
  cases hb:validE a
  ·have hx:exprM s.data.toList=(Ex.mk 0 0 0 [] [],0,5):=by unfold exprM; simp only; rw [← HM.out]; simp [hb]
   have HV:=hid (HVAL.out _ hrg (u0j w1 (.cells #[.int .i64 ak,.int .i64 ao,.int .i32 an,.string (bs ax),.slice aA am ac] 34)))
   rw [hb] at HV
   clear hrg hb
   go_wp2_with fail
   refine HV.out.mono ?_
   rintro e w2 ⟨rfl,hb2⟩
   obtain ⟨_,_,_,k0⟩:=u0a (q:=w.heap.size) (u0d hb2 (some 1)) (u0g (by omega) HL0.out) (by omega)
   have HB2:=hid (seq HB1.out (seq (u0j _ _) hb2))
   clear hb2
   go_wp2_with fail
   refine ret_x3 rfl rfl rfl rfl rfl (put5 _ _ _ _ _ k0) ⟨?_,_,_,_,_,rfl,u8p (name:=[]) u5p,zero_rg,hx.symm⟩
   repeat (first | with_reducible exact Below.refl _ _ | with_reducible refine Below.alloc ?_ (by first | omega | (simp only [u0e,u0h,u0m]; omega) | (simp; omega) | (simp; done)) _ | with_reducible refine Below.setCell ?_ (by first | omega | (simp only [u0e,u0h,u0m]; omega) | (simp; omega) | (simp; done)) _ | with_reducible refine Below.drew ?_)
   exact HB2.out
  ·have hx:exprM s.data.toList=(a,i,0):=by unfold exprM; simp only; rw [← HM.out]; simp [hb]
   have HV:=hid (HVAL.out _ hrg (u0j w1 (.cells #[.int .i64 ak,.int .i64 ao,.int .i32 an,.string (bs ax),.slice aA am ac] 34)))
   rw [hb] at HV
   clear hrg hb
   go_wp2_with fail
   refine HV.out.mono ?_
   rintro e w2 ⟨rfl,hb2⟩
   obtain ⟨_,_,_,k0⟩:=u0a (q:=w.heap.size) (u0d hb2 (some 1)) (u0g (by omega) HL0.out) (by omega)
   obtain ⟨_,_,_,k1⟩:=u0a (q:=w1.heap.size) (u0d hb2 (some 1)) tLOC (by omega)
   have hk2:Kp (w.heap.size+1) w1 w2:=fun p u hp hu=>(hb2.cell (by have:=World.block_lt_of_cell? w1 _ hu; simp only [u0e]; omega)).trans (past hu _)
   have hz2:=hb2.size
   simp only [u0e] at hz2
   have HB2:=hid (seq HB1.out (seq (u0j _ _) hb2))
   clear hb2
   go_wp2_with fail
   refine ret_x3 rfl rfl rfl rfl rfl (put5 _ _ _ _ _ k0) ⟨?_,_,_,_,_,rfl,⟨ak,ao,an,ax,aA,am,ac,rfl,HKEEP.out _ ?_ tSZ⟩,HRG.out,hx.symm⟩
   ·repeat (first | with_reducible exact Below.refl _ _ | with_reducible refine Below.alloc ?_ (by first | omega | (simp only [u0e,u0h,u0m]; omega) | (simp; omega) | (simp; done)) _ | with_reducible refine Below.setCell ?_ (by first | omega | (simp only [u0e,u0h,u0m]; omega) | (simp; omega) | (simp; done)) _ | with_reducible refine Below.drew ?_)
    exact HB2.out
   ·repeat (first | with_reducible exact u5t _ _ | with_reducible refine kp_alloc ?_ _ | (with_reducible refine kp_set ?_ ?_ _; rotate_left 1; focus (first | omega | (simp only [u0e,u0h,u0m]; omega) | (simp; omega) | (simp; done))) | (with_reducible refine u7x ?_ (by with_reducible assumption) ?_; rotate_left 1; focus (first | omega | (simp only [u0e,u0h,u0m]; omega) | (simp; omega) | (simp; done))))
    exact hk2
 ·have he:(er == 0)=false:=by simpa using h0
  have hx:exprM s.data.toList=(a,i,er):=by unfold exprM; simp only; rw [← HM.out]; simp [he]
  have hrg:rgE a:=by
   have hm:=HM.out
   unfold u4x at hm
   split at hm
   ·simp only [Prod.mk.injEq] at hm; rw [hm.1]; exact zero_rg
   ·split at hm
    ·simp only [Prod.mk.injEq] at hm; rw [hm.1]; exact zero_rg
    ·unfold outM at hm
     split at hm
     ·simp only [Prod.mk.injEq] at hm; exact absurd hm.2.2 h0
     ·simp only [Prod.mk.injEq] at hm; rw [hm.1]; exact zero_rg
  have HRG:=hid hrg
  clear hrg h0
  go_wp2_with fail
  refine ret_x3 rfl rfl rfl rfl rfl (u0g tSZ (put5 _ _ _ _ _ HL0.out)) ⟨?_,_,_,_,_,rfl,⟨ak,ao,an,ax,aA,am,ac,rfl,HKEEP.out _ ?_ tSZ⟩,HRG.out,hx.symm⟩
  ·repeat (first | with_reducible exact Below.refl _ _ | with_reducible refine Below.alloc ?_ (by first | omega | (simp only [u0e,u0h,u0m]; omega) | (simp; omega) | (simp; done)) _ | with_reducible refine Below.setCell ?_ (by first | omega | (simp only [u0e,u0h,u0m]; omega) | (simp; omega) | (simp; done)) _ | with_reducible refine Below.drew ?_)
   exact HB1.out
  ·exact tKP
def ProgOut (s:ByteArray) (w:World) (e:Ending) (w':World):Prop:=Below w.heap.size w w'∧∃ A m c B mb cb q i er,e=.returned (.tuple #[.agg #[.slice A m c,.slice B mb cb],.int .i64 i,.int .i64 er])∧PgIn w' A m c B mb cb q∧(q,i,er)=u9i s.data.toList
theorem pgin_of {w w':World} {h:Nat} {A:Option Addr} {m c:Nat} {B:Option Addr} {mb cb:Nat} {q:Pg} (hr:RPg w (fun g=>h≤g∧g<w.heap.size) [.slice A m c,.slice B mb cb] q) (k:Kp h w w') (hz:w.heap.size≤w'.heap.size)
  (hg:(∀ f∈q.fns,rgF f)∧(∀ f∈q.krs,rgK f)∧q.fns.length+q.krs.length≤4000):PgIn w' A m c B mb cb q:=by
 obtain ⟨A',m',c',B',mb',cb',he,hf,hk⟩:=hr
 cases he
 exact ⟨hf.keeps u4c (fun p u hp hu=>k p u hp.1 hu) (fun _ hb=>Nat.lt_of_lt_of_le hb.2 hz),hk.keeps u4j (fun p u hp hu=>k p u hp.1 hu) (fun _ hb=>Nat.lt_of_lt_of_le hb.2 hz),hg.1,hg.2.1,by have:=hg.2.2; omega⟩
theorem pg_none {w:World}:PgIn w none 0 0 none 0 0 ⟨[],[]⟩:=⟨.inl ⟨rfl,rfl⟩,.inl ⟨rfl,rfl⟩,fun _ h=>(by cases h),fun _ h=>(by cases h),by simp⟩
theorem rgs_zero:(∀ f∈(⟨[],[]⟩:Pg).fns,rgF f)∧(∀ f∈(⟨[],[]⟩:Pg).krs,rgK f)∧(⟨[],[]⟩:Pg).fns.length+(⟨[],[]⟩:Pg).krs.length≤4000:=⟨fun _ h=>(by cases h),fun _ h=>(by cases h),by simp⟩
theorem parse_15 (s:ByteArray) (hs:s.size≤maxLen) (w:World) (hG:Gl w):Calls Tryz.prog 15 #[.string s] w (ProgOut s w):=by
 have HG:=hid hG
 clear hG
 have hz10:=HG.out.z
 go_enter Tryz.func15,Tryz.ntmps15
 go_wp2_with fail
 refine (parseP_any s hs _ (HG.out.alloc _).glob (HG.out.alloc _).z).mono ?_
 rintro e w1 ⟨hb1,v,q,i,er,rfl,⟨A,m,c,B,mb,cb,rfl,hre⟩,hM⟩
 obtain ⟨_,_,_,l0⟩:=u0a (q:=w.heap.size) (u0d hb1 (some 0)) tLOC (by omega)
 have HB1:=hid (seq (u0j _ _) hb1)
 have hz1:=hb1.size
 simp only [u0e] at hz1 hre
 have HRE:=hid hre
 have HM:=hid hM
 clear hb1 hre hM
 have HL0:=hid l0
 clear l0
 by_cases h0:er=0
 ·subst h0
  have hrg:=progP_rgs HM.out
  have hV:∀ w',Below w1.heap.size w1 w'→Calls Tryz.prog 26 #[.agg #[.slice A m c,.slice B mb cb]] w' fun e w2=>e=.returned (.bool (u2p q))∧Below w'.heap.size w' w2:=fun w' h =>
   valid_any q w' A m c B mb cb (HG.out.bel (seq HB1.out h)) ((pgin_of HRE.out (fun _ _ _ hu=>hu) (Nat.le_refl _) hrg).below h)
  have HV0:=hV _ (u0j w1 (.cells #[.slice A m c,.slice B mb cb] 26))
  have HRG:=hid hrg
  clear hV hrg
  cases hb:u2p q
  ·have hx:u9i s.data.toList=(⟨[],[]⟩,0,5):=by unfold u9i; simp only; rw [← HM.out]; simp [hb]
   rw [hb] at HV0
   have HV:=hid HV0
   clear hb HV0
   go_wp2_with fail
   refine HV.out.mono ?_
   rintro e w2 ⟨rfl,hb2⟩
   obtain ⟨_,_,_,k0⟩:=u0a (q:=w.heap.size) (u0d hb2 (some 1)) (u0g (by omega) HL0.out) (by omega)
   have HB2:=hid (seq HB1.out (seq (u0j _ _) hb2))
   clear hb2
   go_wp2_with fail
   refine ret_p3 rfl rfl rfl rfl rfl (put2 _ _ k0) ⟨?_,_,_,_,_,_,_,_,_,_,rfl,pg_none,hx.symm⟩
   repeat (first | with_reducible exact Below.refl _ _ | with_reducible refine Below.alloc ?_ (by first | omega | (simp only [u0e,u0h,u0m]; omega) | (simp; omega) | (simp; done)) _ | with_reducible refine Below.setCell ?_ (by first | omega | (simp only [u0e,u0h,u0m]; omega) | (simp; omega) | (simp; done)) _ | with_reducible refine Below.drew ?_)
   exact HB2.out
  ·have hx:u9i s.data.toList=(q,i,0):=by unfold u9i; simp only; rw [← HM.out]; simp [hb]
   rw [hb] at HV0
   have HV:=hid HV0
   clear hb HV0
   go_wp2_with fail
   refine HV.out.mono ?_
   rintro e w2 ⟨rfl,hb2⟩
   obtain ⟨_,_,_,k0⟩:=u0a (q:=w.heap.size) (u0d hb2 (some 1)) (u0g (by omega) HL0.out) (by omega)
   obtain ⟨_,_,_,k1⟩:=u0a (q:=w1.heap.size) (u0d hb2 (some 1)) tLOC (by omega)
   have hk2:Kp (w.heap.size+1) w1 w2:=fun p u hp hu=>(hb2.cell (by have:=World.block_lt_of_cell? w1 _ hu; simp only [u0e]; omega)).trans (past hu _)
   have hz2:=hb2.size
   simp only [u0e] at hz2
   have HB2:=hid (seq HB1.out (seq (u0j _ _) hb2))
   clear hb2
   go_wp2_with fail
   refine ret_p3 rfl rfl rfl rfl rfl (put2 _ _ k0) ⟨?_,_,_,_,_,_,_,_,_,_,rfl,pgin_of HRE.out ?_ tSZ HRG.out,hx.symm⟩
   ·repeat (first | with_reducible exact Below.refl _ _ | with_reducible refine Below.alloc ?_ (by first | omega | (simp only [u0e,u0h,u0m]; omega) | (simp; omega) | (simp; done)) _ | with_reducible refine Below.setCell ?_ (by first | omega | (simp only [u0e,u0h,u0m]; omega) | (simp; omega) | (simp; done)) _ | with_reducible refine Below.drew ?_)
    exact HB2.out
   ·repeat (first | with_reducible exact u5t _ _ | with_reducible refine kp_alloc ?_ _ | (with_reducible refine kp_set ?_ ?_ _; rotate_left 1; focus (first | omega | (simp only [u0e,u0h,u0m]; omega) | (simp; omega) | (simp; done))) | (with_reducible refine u7x ?_ (by with_reducible assumption) ?_; rotate_left 1; focus (first | omega | (simp only [u0e,u0h,u0m]; omega) | (simp; omega) | (simp; done))))
    exact hk2
 ·have he:(er == 0)=false:=by simpa using h0
  have hx:u9i s.data.toList=(q,i,er):=by unfold u9i; simp only; rw [← HM.out]; simp [he]
  have hrg:q=⟨[],[]⟩:=by
   have hm:=HM.out
   unfold u4x at hm
   split at hm
   ·simp only [Prod.mk.injEq] at hm; exact hm.1
   ·split at hm
    ·simp only [Prod.mk.injEq] at hm; exact hm.1
    ·unfold outM at hm
     split at hm
     ·simp only [Prod.mk.injEq] at hm; exact absurd hm.2.2 h0
     ·simp only [Prod.mk.injEq] at hm; exact hm.1
  have HRG:Hid ((∀ f∈q.fns,rgF f)∧(∀ f∈q.krs,rgK f)∧q.fns.length+q.krs.length≤4000):=hid (by rw [hrg]; exact rgs_zero)
  clear hrg h0
  go_wp2_with fail
  refine ret_p3 rfl rfl rfl rfl rfl (u0g tSZ (put2 _ _ HL0.out)) ⟨?_,_,_,_,_,_,_,_,_,_,rfl,pgin_of HRE.out ?_ tSZ HRG.out,hx.symm⟩
  ·repeat (first | with_reducible exact Below.refl _ _ | with_reducible refine Below.alloc ?_ (by first | omega | (simp only [u0e,u0h,u0m]; omega) | (simp; omega) | (simp; done)) _ | with_reducible refine Below.setCell ?_ (by first | omega | (simp only [u0e,u0h,u0m]; omega) | (simp; omega) | (simp; done)) _ | with_reducible refine Below.drew ?_)
   exact HB1.out
  ·exact tKP
end Go.Proofs.YtbkhnilbgocpnaaGreatDoor.SynC
namespace Go.Proofs.YtbkhnilbgocpnaaGreatDoor.SynC
open Go.Proofs.YtbkhnilbgocpnaaGreatDoor.LexC
def tA:Ex:=.mk 4 0 0 [] [.mk 1 0 0 [97] [],.mk 4 2 0 [] [.mk 1 0 0 [98] [],.mk 3 0 0 [] [.mk 1 0 0 [99] []]]]
def tB:Ex:=.mk 4 11 0 [] [.mk 1 0 0 [98] [],.mk 1 0 0 [97] []]
def qC:Pg:=⟨[],[⟨[107],[([97],true)],[],[.mk 2 0 [97] [.mk 0 0 0 [] [],.mk 2 0 0 [] []] [] []]⟩]⟩
theorem ex_a:exprM [97,32,43,32,98,32,42,32,45,99]=(tA,0,0):=by kernel_rfl
theorem ex_b:exprM [97,32,62,32,98]=(tB,0,0):=by kernel_rfl
theorem ex_c:textE tA=([40,32,97,32,43,32,40,32,98,32,42,32,45,32,99,32,41,32,41],0):=by kernel_rfl
theorem ex_d:textE tB=([40,32,98,32,60,32,97,32,41],0):=by kernel_rfl
theorem ex_e:u9i [102,117,110,99,32,102,40]=(⟨[],[]⟩,7,2):=by kernel_rfl
theorem ex_f:u9i [97,32,61,32,49,59]=(⟨[],[]⟩,0,2):=by kernel_rfl
theorem ex_g:u4x (⟨[],[]⟩:Pg) progR [107,101,114,110,101,108,32,107,40,98,117,102,102,101,114,32,97,41,32,123,32,97,91,48,93,32,61,32,116,105,100,59,32,125]=(qC,0,0):=by kernel_rfl
theorem ex_h:writ qC=[107,101,114,110,101,108,32,107,32,40,32,98,117,102,102,101,114,32,97,32,41,32,123,32,97,32,91,32,48,32,93,32,61,32,116,105,100,32,59,32,125]:=by kernel_rfl
end Go.Proofs.YtbkhnilbgocpnaaGreatDoor.SynC
namespace Go.Proofs.YtbkhnilbgocpnaaGreatDoor.SynC
open Go.Proofs.YtbkhnilbgocpnaaGreatDoor.LexC
open Go Go.ChangeShapes Go.WideShapes Go.ChangeAt Go.RowKit Go.Deep
theorem re_of {h:Nat} {w:World} {cs:List Value} {a:Ex} (H:RE w (fun g=>h≤g∧g<w.heap.size) cs a):RE w (fun g=>g<w.heap.size) cs a:=RE.keeps (fun _ _ _ hu=>hu) (fun _ hb=>hb.2) _ _ H
theorem re_bel {w w':World} {cs:List Value} {a:Ex} (H:RE w (fun g=>g<w.heap.size) cs a) (k:Below w.heap.size w w'):RE w' (fun g=>g<w'.heap.size) cs a:=RE.keeps (u0w k fun _ hb=>hb) (fun _ hb=>Nat.lt_of_lt_of_le hb k.size) _ _ H
theorem expr_ex (s:ByteArray) (hs:s.size≤maxLen) (t:Ex) (i er:Int) (h:exprM s.data.toList=(t,i,er)) (w:World) (hG:Gl w) :
  Calls Tryz.prog 18 #[.string s] w fun e w'=>(∃ bk bo bn bx bA bm bc,e=.returned (.tuple #[.agg #[.int .i64 bk,.int .i64 bo,.int .i32 bn,.string (bs bx),.slice bA bm bc],.int .i64 i,.int .i64 er])∧RE w' (fun g=>g<w'.heap.size) [.int .i64 bk,.int .i64 bo,.int .i32 bn,.string (bs bx),.slice bA bm bc] t∧rgE t)∧Below w.heap.size w w' :=
 (expr_18 s hs w hG).mono fun e w' ⟨hb,v,a,i',er',he,⟨bk,bo,bn,bx,bA,bm,bc,hv,hr⟩,hg,hx⟩=>⟨by
  rw [h] at hx
  simp only [Prod.mk.injEq] at hx
  obtain ⟨rfl,rfl,rfl⟩:=hx
  subst hv
  exact ⟨bk,bo,bn,bx,bA,bm,bc,he,re_of hr,hg⟩,hb⟩
theorem prog_ex (s:ByteArray) (hs:s.size≤maxLen) (t:Pg) (i er:Int) (h:u9i s.data.toList=(t,i,er)) (w:World) (hG:Gl w) :
  Calls Tryz.prog 15 #[.string s] w fun e w'=>(∃ A m c B mb cb,e=.returned (.tuple #[.agg #[.slice A m c,.slice B mb cb],.int .i64 i,.int .i64 er])∧PgIn w' A m c B mb cb t)∧Below w.heap.size w w' :=
 (parse_15 s hs w hG).mono fun e w' ⟨hb,A,m,c,B,mb,cb,q,i',er',he,hp,hx⟩=>⟨by
  rw [h] at hx
  simp only [Prod.mk.injEq] at hx
  obtain ⟨rfl,rfl,rfl⟩:=hx
  exact ⟨A,m,c,B,mb,cb,he,hp⟩,hb⟩
theorem exprText_29 (a:Ex) (w:World) (bk bo bn:Int) (bx:List UInt8) (bA:Option Addr) (bm bc:Nat) (hG:Gl w) (hr:RE w (fun g=>g<w.heap.size) [.int .i64 bk,.int .i64 bo,.int .i32 bn,.string (bs bx),.slice bA bm bc] a) (hg:rgE a) :
  Calls Tryz.prog 29 #[.agg #[.int .i64 bk,.int .i64 bo,.int .i32 bn,.string (bs bx),.slice bA bm bc]] w fun e w'=>e=.returned (.tuple #[.string (bs (textE a).1),.int .i64 (textE a).2])∧Below w.heap.size w w' :=
 (exprText_any a w _ _ _ _ _ _ _ hG.z hG.glob hG.pow hG.tabs.exs hr hg fitE_room).mono fun e w' ⟨he,hb⟩=>⟨by
  rw [he]
  unfold textE validE
  split <;> rfl,hb⟩
theorem textE_ex {a:Ex} {l:List UInt8} {er:Int} (h:textE a=(l,er)) (s:ByteArray) (hs:bs l=s) (w:World) (bk bo bn:Int) (bx:List UInt8) (bA:Option Addr) (bm bc:Nat) (hG:Gl w) (hr:RE w (fun g=>g<w.heap.size) [.int .i64 bk,.int .i64 bo,.int .i32 bn,.string (bs bx),.slice bA bm bc] a) (hg:rgE a) :
  Calls Tryz.prog 29 #[.agg #[.int .i64 bk,.int .i64 bo,.int .i32 bn,.string (bs bx),.slice bA bm bc]] w fun e w'=>e=.returned (.tuple #[.string s,.int .i64 er])∧Below w.heap.size w w':=by
 have:=exprText_29 a w _ _ _ _ _ _ _ hG hr hg
 rw [h] at this
 simp only [hs] at this
 exact this
theorem textP_ex {q:Pg} {l:List UInt8} {er:Int} (h:u6w q=(l,er)) (s:ByteArray) (hs:bs l=s) (w:World) (A:Option Addr) (m c:Nat) (B:Option Addr) (mb cb:Nat) (hG:Gl w) (hp:PgIn w A m c B mb cb q) :
  Calls Tryz.prog 22 #[.agg #[.slice A m c,.slice B mb cb]] w fun e w'=>e=.returned (.tuple #[.string s,.int .i64 er])∧Below w.heap.size w w':=by
 have:=text_any q w A m c B mb cb hG hp
 rw [h] at this
 simp only [hs] at this
 exact this
theorem ex_fit:fitP qC=true:=by kernel_rfl
theorem ex_valid:u2p qC=true:=by unfold u2p; rw [ex_fit,ex_h]; rfl
theorem ex_i:u6w qC=([107,101,114,110,101,108,32,107,32,40,32,98,117,102,102,101,114,32,97,32,41,32,123,32,97,32,91,32,48,32,93,32,61,32,116,105,100,32,59,32,125],0):=by unfold u6w; rw [ex_valid,ex_h]; rfl
theorem ex_j:u9i [107,101,114,110,101,108,32,107,40,98,117,102,102,101,114,32,97,41,32,123,32,97,91,48,93,32,61,32,116,105,100,59,32,125]=(qC,0,0):=by unfold u9i; simp only; rw [ex_g,ex_valid]; rfl
theorem awake_any (w:World) (hG:Gl w):Calls Tryz.prog 14 #[] w fun e w'=>e=.returned (.bool true)∧Below w.heap.size w w':=by
 have HG:=hid hG
 clear hG
 have e1:((⟨#[40,32,97,32,43,32,40,32,98,32,42,32,45,32,99,32,41,32,41]⟩:ByteArray).toList == (⟨#[40,32,97,32,43,32,40,32,98,32,42,32,45,32,99,32,41,32,41]⟩:ByteArray).toList)=true:=by simp
 have e2:((⟨#[40,32,98,32,60,32,97,32,41]⟩:ByteArray).toList == (⟨#[40,32,98,32,60,32,97,32,41]⟩:ByteArray).toList)=true:=by simp
 have e3:((⟨#[107,101,114,110,101,108,32,107,32,40,32,98,117,102,102,101,114,32,97,32,41,32,123,32,97,32,91,32,48,32,93,32,61,32,116,105,100,32,59,32,125]⟩:ByteArray).toList == (⟨#[107,101,114,110,101,108,32,107,32,40,32,98,117,102,102,101,114,32,97,32,41,32,123,32,97,32,91,32,48,32,93,32,61,32,116,105,100,32,59,32,125]⟩:ByteArray).toList)=true:=by simp
 go_enter Tryz.func14,Tryz.ntmps14
 go_wp2_with fail
 refine (expr_ex _ (by decide) tA 0 0 ex_a _ HG.out).mono ?_
 rintro e w1 ⟨⟨ak,ao,an,ax,aA,am,ac,rfl,hr1,hg1⟩,hb1⟩
 have HR1:=hid hr1
 have HB1:=hid hb1
 clear hr1 hb1
 go_wp2_with fail
 refine (expr_ex _ (by decide) tB 0 0 ex_b _ ((HG.out.bel HB1.out).alloc _)).mono ?_
 rintro e w2 ⟨⟨bk,bo,bn,bx,bA,bm,bc,rfl,hr2,hg2⟩,hb2⟩
 have hz2:=hb2.size
 simp only [u0e] at hz2
 obtain ⟨_,_,_,l1⟩:=u0a (q:=w1.heap.size) (u0d hb2 (some 1)) (u0c _ _) (by have:=HG.out.z; have:=HB1.out.size; omega)
 have HB2:=hid (seq (u0j w1 _) hb2)
 have HR2:=hid hr2
 clear hr2
 go_wp2_with fail
 refine (textE_ex ex_c ⟨#[40,32,97,32,43,32,40,32,98,32,42,32,45,32,99,32,41,32,41]⟩ rfl _ _ _ _ _ _ _ _ ((HG.out.bel (seq HB1.out HB2.out)).alloc _) (re_bel HR1.out (seq HB2.out (u0j _ _))) hg1).mono ?_
 rintro e w3 ⟨rfl,hb3⟩
 have hz3:=hb3.size
 simp only [u0e] at hz3
 have HB3:=hid (seq (u0j w2 _) hb3)
 obtain ⟨_,_,_,l2⟩:=u0a (q:=w2.heap.size) (u0d hb3 (some 1)) (u0c _ _) (by have:=HG.out.z; have:=HB1.out.size; omega)
 go_wp2_with fail
 refine (textE_ex ex_d ⟨#[40,32,98,32,60,32,97,32,41]⟩ rfl _ _ _ _ _ _ _ _ (HG.out.bel (seq (seq HB1.out HB2.out) HB3.out)) (re_bel HR2.out HB3.out) hg2).mono ?_
 rintro e w4 ⟨rfl,hb4⟩
 have HB4:=hid (seq (seq (seq HB1.out HB2.out) HB3.out) hb4)
 clear hb4 hb3 hb2 hg1 hg2 HR1 HR2 l1 l2
 go_wp2_with fail
 refine (prog_ex _ (by decide) ⟨[],[]⟩ 7 2 ex_e _ (HG.out.bel HB4.out)).mono ?_
 rintro e w5 ⟨⟨A5,m5,c5,B5,mb5,cb5,rfl,-⟩,hb5⟩
 have HB5:=hid (seq HB4.out hb5)
 clear hb5
 go_wp2_with fail
 refine (prog_ex _ (by decide) ⟨[],[]⟩ 0 2 ex_f _ ((HG.out.bel HB5.out).alloc _)).mono ?_
 rintro e w6 ⟨⟨A6,m6,c6,B6,mb6,cb6,rfl,-⟩,hb6⟩
 have HB6:=hid (seq (seq HB5.out (u0j _ _)) hb6)
 clear hb6
 go_wp2_with fail
 refine (prog_ex _ (by decide) qC 0 0 ex_j _ ((HG.out.bel HB6.out).alloc _)).mono ?_
 rintro e w7 ⟨⟨A7,m7,c7,B7,mb7,cb7,rfl,hp7⟩,hb7⟩
 have HB7:=hid (seq (seq HB6.out (u0j _ _)) hb7)
 have HP7:=hid hp7
 clear hb7 hp7
 go_wp2_with fail
 refine (textP_ex ex_i ⟨#[107,101,114,110,101,108,32,107,32,40,32,98,117,102,102,101,114,32,97,32,41,32,123,32,97,32,91,32,48,32,93,32,61,32,116,105,100,32,59,32,125]⟩ rfl _ _ _ _ _ _ _ ((HG.out.bel HB7.out).alloc _) (HP7.out.below (u0j _ _))).mono ?_
 rintro e w8 ⟨rfl,hb8⟩
 have HB8:=hid (seq (seq HB7.out (u0j _ _)) hb8)
 clear hb8
 go_wp2
 go_ret
 exact ⟨rfl,HB8.out⟩
def SmE (a:Ex):Prop:=∀ (w:World) (bk bo bn:Int) (bx:List UInt8) (bA:Option Addr) (bm bc:Nat) (yk yo yn:Int) (yx:List UInt8) (yA:Option Addr) (ym yc:Nat),RE w (fun g=>g<w.heap.size) [.int .i64 bk,.int .i64 bo,.int .i32 bn,.string (bs bx),.slice bA bm bc] a→RE w (fun g=>g<w.heap.size) [.int .i64 yk,.int .i64 yo,.int .i32 yn,.string (bs yx),.slice yA ym yc] a→rgE a →
 Calls Tryz.prog 20 #[.agg #[.int .i64 bk,.int .i64 bo,.int .i32 bn,.string (bs bx),.slice bA bm bc],.agg #[.int .i64 yk,.int .i64 yo,.int .i32 yn,.string (bs yx),.slice yA ym yc]] w fun e w'=>e=.returned (.bool true)∧Below w.heap.size w w'
def SmEs (l:List Ex):Prop:=∀ (w:World) (A:Option Addr) (m c:Nat) (B:Option Addr) (mb cb:Nat),SlE w (fun g=>g<w.heap.size) (.slice A m c) l→SlE w (fun g=>g<w.heap.size) (.slice B mb cb) l→rgEs l→l.length≤1125899906842624 →
 Calls Tryz.prog 50 #[.slice A m c,.slice B mb cb] w fun e w'=>e=.returned (.bool true)∧Below w.heap.size w w'
theorem u7z {w w':World} {v:Value} {l:List Ex} (h:SlE w (fun g=>g<w.heap.size) v l) (k:Below w.heap.size w w'):SlE w' (fun g=>g<w'.heap.size) v l:=h.keeps (u0w k fun _ hb=>hb) (fun _ hb=>Nat.lt_of_lt_of_le hb k.size)
theorem same_exprs (l:List Ex) (hl:∀ a∈l,SmE a):SmEs l:=by
 intro w A m c B mb cb hA hB hg hll
 have hm1:=slE_len hA
 have hm2:=slE_len hB
 subst hm1
 subst hm2
 have HA:=hid hA
 have HB:=hid hB
 have HG:=hid hg
 have HL:=hid hl
 clear hA hB hg hl
 go_enter Tryz.func50,Tryz.ntmps50
 go_wp2_with fail
 go_loopw [5] (fun i wr=>∃ (k:Nat),k≤l.length∧i=.int .i64 k∧Below w.heap.size w wr) (fun i _=>l.length - (intOf i).toNat)
 case atStart=>exact ⟨0,Nat.zero_le _,rfl,Below.refl _ _⟩
 case round =>
  obtain ⟨k,hk,rfl,hbr⟩:=hrel
  have HBR:=hid hbr
  by_cases hlt:k<l.length
  ·obtain ⟨a,ha⟩:∃ a,l[k]? = some a:=⟨l[k],List.getElem?_eq_getElem hlt⟩
   obtain ⟨g,o,rfl,_,hPg,hrows⟩:=u3n (u7z HA.out hbr) (by omega)
   obtain ⟨g2,o2,rfl,_,hPg2,hrows2⟩:=u3n (u7z HB.out hbr) (by omega)
   obtain ⟨bk,bo,bn,bx,bA,bm,bc,⟨b0,b1,b2,b3,b4⟩,hrb⟩:=hrows k a ha
   obtain ⟨yk,yo,yn,yx,yA,ym,yc,⟨y0,y1,y2,y3,y4⟩,hrd⟩:=hrows2 k a ha
   have hin:(0:Int)≤k∧(k:Int)<l.length:=⟨by omega,by omega⟩
   have HRB:=hid hrb
   have HRD:=hid hrd
   have hmem:=List.mem_of_getElem? ha
   have HC:Hid (Calls Tryz.prog 20 #[.agg #[.int .i64 bk,.int .i64 bo,.int .i32 bn,.string (bs bx),.slice bA bm bc],.agg #[.int .i64 yk,.int .i64 yo,.int .i32 yn,.string (bs yx),.slice yA ym yc]] wr.drew fun e w'=>e=.returned (.bool true)∧Below wr.drew.heap.size wr.drew w') :=
    hid (HL.out a hmem wr.drew _ _ _ _ _ _ _ _ _ _ _ _ _ _ (re_bel hrb ((Below.refl _ _).drew)) (re_bel hrd ((Below.refl _ _).drew)) (u7v HG.out a hmem))
   clear hrows hrows2 hrb hrd ha hbr
   go_wp2_with fail
   go_still_tail 8,(by kernel_rfl)
   go_wp2_with fail
   refine HC.out.mono ?_
   rintro e w2 ⟨rfl,hb2⟩
   have HB2:=hid (HBR.out.trans (((Below.refl wr.heap.size wr).drew.trans hb2).mono HBR.out.size))
   clear hb2
   go_wp2
   go_roundw
   case rel=>exact ⟨k+1,by omega,by go_num,HB2.out⟩
   case measure=>simp [intOf]; omega
  ·go_wp2
   go_ret
   exact ⟨rfl,HBR.out⟩
theorem same_expr (kind op num:Int) (name:List UInt8) (kids:List Ex) (hk:SmEs kids):SmE (.mk kind op num name kids):=by
 intro w bk bo bn bx bA bm bc yk yo yn yx yA ym yc hb hy hg
 rw [RE_eq] at hb hy
 obtain ⟨K,hc,hK⟩:=hb
 cases hc
 obtain ⟨K2,hc2,hK2⟩:=hy
 cases hc2
 rw [rgE] at hg
 have HK:=hid hk
 have HK1:=hid hK
 have HK2:=hid hK2
 have HG:=hid hg
 have e1:((kind:Int) == kind)=true:=by simp
 have e2:((op:Int) == op)=true:=by simp
 have e3:((num:Int) == num)=true:=by simp
 have e4:((bs name).toList == (bs name).toList)=true:=by simp
 clear hk hK hK2 hg
 go_enter Tryz.func20,Tryz.ntmps20
 go_wp2_with fail
 have hba:Below w.heap.size w ((w.alloc (.cells #[.int .i64 kind,.int .i64 op,.int .i32 num,.string (bs name),.slice bA bm bc] 34)).alloc (.cells #[.int .i64 kind,.int .i64 op,.int .i32 num,.string (bs name),.slice yA ym yc] 34)):=((Below.refl _ _).alloc tSZ _).alloc tSZ _
 refine (HK.out _ _ _ _ _ _ _ (u7z HK1.out hba) (u7z HK2.out hba) HG.out.2.2.2 HG.out.2.2.1).mono ?_
 rintro e w1 ⟨rfl,hb1⟩
 have HB1:=hid (seq hba hb1)
 clear hb1
 go_wp2
 go_ret
 exact ⟨rfl,HB1.out⟩
mutual
theorem sm_all:(a:Ex)→SmE a
 | .mk kind op num name kids=>same_expr kind op num name kids (same_exprs kids (sms_all kids))
theorem sms_all:(l:List Ex)→∀ a∈l,SmE a
 | [],_,h=>by cases h
 | e :: r,a,h=>by
  rcases List.mem_cons.1 h with h1 | h1
  ·rw [h1]; exact sm_all e
  ·exact sms_all r a h1
end
theorem u2w {B:Nat} {a w:World} (h:Below B a w) (n:Nat):Below B a (w.drewN n):=⟨h.os,h.tape,h.output,h.size,h.block⟩
theorem same_texts (l:List (List UInt8)) (w:World) (A:Option Addr) (m c:Nat) (B:Option Addr) (mb cb:Nat) (hA:SlR rdN 1 (fun g=>g<w.heap.size) w (.slice A m c) l) (hB:SlR rdN 1 (fun g=>g<w.heap.size) w (.slice B mb cb) l) (hll:l.length≤1125899906842624) :
  Calls Tryz.prog 86 #[.slice A m c,.slice B mb cb] w fun e w'=>e=.returned (.bool true)∧Below w.heap.size w w':=by
 have hm1:=hA.len
 have hm2:=hB.len
 subst hm1
 subst hm2
 have HA:=hid hA
 have HB:=hid hB
 clear hA hB
 go_enter Tryz.func86,Tryz.ntmps86
 go_wp2_with fail
 go_loopw [5] (fun i wr=>∃ (k:Nat),k≤l.length∧i=.int .i64 k∧Below w.heap.size w wr) (fun i _=>l.length - (intOf i).toNat)
 case atStart=>exact ⟨0,Nat.zero_le _,rfl,Below.refl _ _⟩
 case round =>
  obtain ⟨k,hk,rfl,hbr⟩:=hrel
  have HBR:=hid hbr
  by_cases hlt:k<l.length
  ·obtain ⟨a,ha⟩:∃ a,l[k]? = some a:=⟨l[k],List.getElem?_eq_getElem hlt⟩
   obtain ⟨g,o,rfl,_,hPg,hrows⟩:=u2c (by decide) (fun P w cs a h=>⟨.string (bs a),by unfold rdN at h; subst h; rfl⟩) (HA.out.keeps u2t (u0w hbr fun _ hb=>hb) (fun _ hb=>hb)) (by omega)
   obtain ⟨g2,o2,rfl,_,hPg2,hrows2⟩:=u2c (by decide) (fun P w cs a h=>⟨.string (bs a),by unfold rdN at h; subst h; rfl⟩) (HB.out.keeps u2t (u0w hbr fun _ hb=>hb) (fun _ hb=>hb)) (by omega)
   obtain ⟨cs,hcs,hrd⟩:=hrows k a ha
   obtain ⟨cs2,hcs2,hrd2⟩:=hrows2 k a ha
   have hrd:cs=[.string (bs a)]:=hrd
   have hrd2:cs2=[.string (bs a)]:=hrd2
   subst hrd
   subst hrd2
   have c0:=hcs 0 _ rfl
   have y0:=hcs2 0 _ rfl
   simp only [Nat.mul_one,Nat.add_zero] at c0 y0
   have hin:(0:Int)≤k∧(k:Int)<l.length:=⟨by omega,by omega⟩
   have e1:((bs a).toList != (bs a).toList)=false:=by simp
   clear hrows hrows2 hcs hcs2 ha hbr
   go_wp2_with fail
   go_quiet (fail)
   go_wp2
   go_roundw
   case rel=>exact ⟨k+1,by omega,by go_num,by first | exact u2w HBR.out _ | exact HBR.out.drew⟩
   case measure=>simp [intOf]; omega
  ·go_wp2
   go_ret
   exact ⟨rfl,HBR.out⟩
theorem same_params (l:List (List UInt8 × Bool)) (w:World) (A:Option Addr) (m c:Nat) (B:Option Addr) (mb cb:Nat) (hA:SlR rdP 2 (fun g=>g<w.heap.size) w (.slice A m c) l) (hB:SlR rdP 2 (fun g=>g<w.heap.size) w (.slice B mb cb) l) (hll:l.length≤1125899906842624) :
  Calls Tryz.prog 88 #[.slice A m c,.slice B mb cb] w fun e w'=>e=.returned (.bool true)∧Below w.heap.size w w':=by
 have hm1:=hA.len
 have hm2:=hB.len
 subst hm1
 subst hm2
 have HA:=hid hA
 have HB:=hid hB
 clear hA hB
 go_enter Tryz.func88,Tryz.ntmps88
 go_wp2_with fail
 go_loopw [5] (fun i wr=>∃ (k:Nat),k≤l.length∧i=.int .i64 k∧Below w.heap.size w wr) (fun i _=>l.length - (intOf i).toNat)
 case atStart=>exact ⟨0,Nat.zero_le _,rfl,Below.refl _ _⟩
 case round =>
  obtain ⟨k,hk,rfl,hbr⟩:=hrel
  have HBR:=hid hbr
  by_cases hlt:k<l.length
  ·obtain ⟨a,ha⟩:∃ a,l[k]? = some a:=⟨l[k],List.getElem?_eq_getElem hlt⟩
   obtain ⟨g,o,rfl,_,hPg,hrows⟩:=u2c (by decide) (fun P w cs a h=>⟨.string (bs a.1),by unfold rdP at h; subst h; rfl⟩) (HA.out.keeps u2l (u0w hbr fun _ hb=>hb) (fun _ hb=>hb)) (by omega)
   obtain ⟨g2,o2,rfl,_,hPg2,hrows2⟩:=u2c (by decide) (fun P w cs a h=>⟨.string (bs a.1),by unfold rdP at h; subst h; rfl⟩) (HB.out.keeps u2l (u0w hbr fun _ hb=>hb) (fun _ hb=>hb)) (by omega)
   obtain ⟨cs,hcs,hrd⟩:=hrows k a ha
   obtain ⟨cs2,hcs2,hrd2⟩:=hrows2 k a ha
   have hrd:cs=[.string (bs a.1),.bool a.2]:=hrd
   have hrd2:cs2=[.string (bs a.1),.bool a.2]:=hrd2
   subst hrd
   subst hrd2
   have c0:=hcs 0 _ rfl
   have y0:=hcs2 0 _ rfl
   have c1:=hcs 1 _ rfl
   have y1:=hcs2 1 _ rfl
   simp only [Nat.mul_one,Nat.add_zero] at c0 y0 c1 y1
   have hin:(0:Int)≤k∧(k:Int)<l.length:=⟨by omega,by omega⟩
   obtain ⟨x,v⟩:=a
   simp only at c0 c1 y0 y1
   clear hrows hrows2 hcs hcs2 ha hbr
   go_wp2_with fail
   go_quiet (fail)
   go_wp2
   go_roundw
   case rel=>exact ⟨k+1,by omega,by go_num,by first | exact u2w HBR.out _ | exact HBR.out.drew⟩
   case measure=>simp [intOf]; omega
  ·go_wp2
   go_ret
   exact ⟨rfl,HBR.out⟩
theorem same_arrays (l:List (List UInt8 × Int)) (w:World) (A:Option Addr) (m c:Nat) (B:Option Addr) (mb cb:Nat) (hA:SlR rdA 2 (fun g=>g<w.heap.size) w (.slice A m c) l) (hB:SlR rdA 2 (fun g=>g<w.heap.size) w (.slice B mb cb) l) (hll:l.length≤1125899906842624) :
  Calls Tryz.prog 89 #[.slice A m c,.slice B mb cb] w fun e w'=>e=.returned (.bool true)∧Below w.heap.size w w':=by
 have hm1:=hA.len
 have hm2:=hB.len
 subst hm1
 subst hm2
 have HA:=hid hA
 have HB:=hid hB
 clear hA hB
 go_enter Tryz.func89,Tryz.ntmps89
 go_wp2_with fail
 go_loopw [5] (fun i wr=>∃ (k:Nat),k≤l.length∧i=.int .i64 k∧Below w.heap.size w wr) (fun i _=>l.length - (intOf i).toNat)
 case atStart=>exact ⟨0,Nat.zero_le _,rfl,Below.refl _ _⟩
 case round =>
  obtain ⟨k,hk,rfl,hbr⟩:=hrel
  have HBR:=hid hbr
  by_cases hlt:k<l.length
  ·obtain ⟨a,ha⟩:∃ a,l[k]? = some a:=⟨l[k],List.getElem?_eq_getElem hlt⟩
   obtain ⟨g,o,rfl,_,hPg,hrows⟩:=u2c (by decide) (fun P w cs a h=>⟨.string (bs a.1),by unfold rdA at h; subst h; rfl⟩) (HA.out.keeps u2z (u0w hbr fun _ hb=>hb) (fun _ hb=>hb)) (by omega)
   obtain ⟨g2,o2,rfl,_,hPg2,hrows2⟩:=u2c (by decide) (fun P w cs a h=>⟨.string (bs a.1),by unfold rdA at h; subst h; rfl⟩) (HB.out.keeps u2z (u0w hbr fun _ hb=>hb) (fun _ hb=>hb)) (by omega)
   obtain ⟨cs,hcs,hrd⟩:=hrows k a ha
   obtain ⟨cs2,hcs2,hrd2⟩:=hrows2 k a ha
   have hrd:cs=[.string (bs a.1),.int .i64 a.2]:=hrd
   have hrd2:cs2=[.string (bs a.1),.int .i64 a.2]:=hrd2
   subst hrd
   subst hrd2
   have c0:=hcs 0 _ rfl
   have y0:=hcs2 0 _ rfl
   have c1:=hcs 1 _ rfl
   have y1:=hcs2 1 _ rfl
   simp only [Nat.mul_one,Nat.add_zero] at c0 y0 c1 y1
   have hin:(0:Int)≤k∧(k:Int)<l.length:=⟨by omega,by omega⟩
   obtain ⟨x,v⟩:=a
   simp only at c0 c1 y0 y1
   clear hrows hrows2 hcs hcs2 ha hbr
   go_wp2_with fail
   go_quiet (fail)
   go_wp2
   go_roundw
   case rel=>exact ⟨k+1,by omega,by go_num,by first | exact u2w HBR.out _ | exact HBR.out.drew⟩
   case measure=>simp [intOf]; omega
  ·go_wp2
   go_ret
   exact ⟨rfl,HBR.out⟩
section
variable {H:Type} {enc:TypeId × Value→H} {W:World} {base:Nat} {sp:Nat→Bool} {held:Bool}
structure PgAr (w:World) (A:Option Addr) (m c:Nat) (B:Option Addr) (mb cb:Nat) (q:Pg):Prop where
 f:SlR rdF 3 (fun g=>g<w.heap.size) w (.slice A m c) q.fns
 k:SlR rdK 4 (fun g=>g<w.heap.size) w (.slice B mb cb) q.krs
 gf:∀ a∈q.fns,rgF a
 gk:∀ a∈q.krs,rgK a
 lf:q.fns.length≤1125899906842624
 lk:q.krs.length≤1125899906842624
end
def lgB (x:List UInt8):Int:=if 100<x.length then 2000 else 0
def nmOf:Ex→List UInt8
 | .mk _ _ _ x _=>x
mutual
def cntX:Ex→Int→Int
 | .mk _ _ _ _ kids,most=>cntL kids most 0
def cntL:List Ex→Int→Int→Int
 | [],_,n=>n
 | e :: r,most,n=>if n≤most then cntL r most (wrap64 (wrap64 (wrap64 (n+1)+lgB (nmOf e))+cntX e (wrap64 (most - n)))) else n
end
theorem cntL_cons (e:Ex) (r:List Ex) (most n:Int):cntL (e :: r) most n=if n≤most then cntL r most (wrap64 (wrap64 (wrap64 (n+1)+lgB (nmOf e))+cntX e (wrap64 (most - n)))) else n:=by
 rw [cntL]
theorem w64_id {n:Int} (h0:-9223372036854775808≤n) (h1:n≤9223372036854775807):wrap64 n=n:=by unfold wrap64; omega
theorem name_le {x:List UInt8} (h:u0f x=true):x.length≤16:=by
 rw [nm_eq] at h
 exact u6a h
theorem nm16 {kind op num:Int} {x:List UInt8} {n:Nat} (h:u1h u0f kind op num x n=true):x.length≤16:=by
 unfold u1h at h
 repeat' split at h
 all_goals (try simp only [Bool.and_eq_true] at h)
 all_goals first | (cases h; done) | exact name_le h.1.1.2 | exact (by rw [List.isEmpty_iff.1 h.1.1.2]; simp)
theorem lg_ok {x:List UInt8} (h:x.length≤16):lgB x=0:=by unfold lgB; rw [if_neg (by omega)]
mutual
theorem cntX_ok:(e:Ex)→∀ most:Int,okE u0f e=true→599+u4d e≤most→most≤1000→cntX e most+1=u4d e
 | .mk kind op num x kids,most,ho,h1,h2=>by
  rw [okE,Bool.and_eq_true] at ho
  rw [u4d] at h1
  rw [cntX,cntL_ok kids most 0 ho.2 (by omega) (by omega) h2,u4d]; omega
theorem cntL_ok:(l:List Ex)→∀ most n:Int,okEs u0f l=true→0≤n→600+n+u0s l≤most→most≤1000→cntL l most n=n+u0s l
 | [],most,n,_,_,_,_=>by rw [cntL,u0s]; omega
 | e :: r,most,n,ho,hn,h1,h2=>by
  rw [okEs,Bool.and_eq_true] at ho
  rw [u0s] at h1
  have p1:=partsE_pos e
  have p2:=u2m r
  have hx:lgB (nmOf e)=0:=by
   cases e with
   | mk kind op num x kids =>
    have:=ho.1
    rw [okE,Bool.and_eq_true] at this
    exact lg_ok (nm16 this.1)
  have hw:wrap64 (most - n)=most - n:=w64_id (by omega) (by omega)
  have hc:=cntX_ok e (most - n) ho.1 (by omega) (by omega)
  rw [cntL_cons,if_pos (by omega),hx,hw,w64_id (n:=n+1) (by omega) (by omega),w64_id (n:=n+1+0) (by omega) (by omega),w64_id (by omega) (by omega),u0s]
  rw [cntL_ok r most _ ho.2 (by omega) (by omega) h2]
  omega
end
theorem cntL_drop (l:List Ex) (k:Nat) (a:Ex) (most n:Int) (h:l[k]? = some a) (hn:n≤most):cntL (l.drop k) most n=cntL (l.drop (k+1)) most (wrap64 (wrap64 (wrap64 (n+1)+lgB (nmOf a))+cntX a (wrap64 (most - n)))):=by
 obtain ⟨h1,h2⟩:=List.getElem?_eq_some_iff.1 h
 rw [List.drop_eq_getElem_cons h1,h2,cntL_cons,if_pos hn]
theorem cntL_stop (l:List Ex) (most n:Int) (h:l=[]∨¬ n≤most):cntL l most n=n:=by
 cases l with
 | nil=>rw [cntL]
 | cons e r =>
  rcases h with h | h
  ·cases h
  ·rw [cntL_cons,if_neg h]
theorem u9y (x:List UInt8) (hx:x.length≤maxLen) (w:World):Calls Tryz.prog 52 #[.string (bs x)] w fun e w'=>e=.returned (.int .i64 (lgB x))∧w'=w:=by
 by_cases h:100<x.length
 ·have hd:decide ((100:Int)<((bs x).size:Nat))=true:=by rw [u3t]; simp; omega
  have hl:lgB x=2000:=by unfold lgB; rw [if_pos h]
  rw [hl]
  go_enter Tryz.func52,Tryz.ntmps52
  go_wp2
  go_ret
  exact ⟨rfl,rfl⟩
 ·have hd:decide ((100:Int)<((bs x).size:Nat))=false:=by rw [u3t]; simp; omega
  have hl:lgB x=0:=by unfold lgB; rw [if_neg h]
  rw [hl]
  go_enter Tryz.func52,Tryz.ntmps52
  go_wp2
  go_ret
  exact ⟨rfl,rfl⟩
theorem q_same {f:FuncId} {args:Array Value} {w:World} {n:Nat} {v:Value} (h:∀ k:Nat,Calls Tryz.prog f args (w.drewN k) fun e w'=>e=.returned v∧∃ m,w'=(w.drewN k).drewN m) :
  Calls Tryz.prog f args (w.drewN n) fun e w''=>e=.returned v∧∃ m,w''=w.drewN m:=(h n).mono fun _ _ ⟨he,m,hm⟩=>⟨he,n+m,by rw [hm,World.drewN_drewN]⟩
theorem q_add {f:FuncId} {args:Array Value} {w:World} {a n:Nat} {v:Value} (h:∀ k:Nat,Calls Tryz.prog f args (w.drewN k) fun e w'=>e=.returned v∧∃ m,w'=(w.drewN k).drewN m) :
  Calls Tryz.prog f args (w.drewN (a+n)) fun e w''=>e=.returned v∧∃ m,w''=w.drewN (a+m):=(h (a+n)).mono fun _ _ ⟨he,m,hm⟩=>⟨he,n+m,by rw [hm,World.drewN_drewN,Nat.add_assoc]⟩
theorem long_n (x:List UInt8) (hx:x.length≤maxLen) (w:World):∀ k:Nat,Calls Tryz.prog 52 #[.string (bs x)] (w.drewN k) fun e w'=>e=.returned (.int .i64 (lgB x))∧∃ m,w'=(w.drewN k).drewN m :=
 fun k=>(u9y x hx _).mono fun _ _ ⟨he,hm⟩=>⟨he,0,hm⟩
def kidsOf:Ex→List Ex
 | .mk _ _ _ _ kids=>kids
def CX (e:Ex):Prop:=∀ (w:World) (most:Int) (A:Option Addr) (m c:Nat),SlE w (fun g=>g<w.heap.size) (.slice A m c) (kidsOf e)→rgE e →
 Calls Tryz.prog 28 #[.slice A m c,.int .i64 most] w fun e' w'=>e'=.returned (.int .i64 (cntX e most))∧∃ n,w'=w.drewN n
theorem sl_drewN {w:World} {v:Value} {l:List Ex} (h:SlE w (fun g=>g<w.heap.size) v l) (n:Nat):SlE (w.drewN n) (fun g=>g<(w.drewN n).heap.size) v l:=u7z h (u2w (Below.refl _ _) n)
theorem exprs_l (l:List Ex) (hl:∀ a∈l,CX a) (w:World) (most:Int) (A:Option Addr) (m c:Nat) (hs:SlE w (fun g=>g<w.heap.size) (.slice A m c) l) (hg:rgEs l) (hll:l.length≤1125899906842624) :
  Calls Tryz.prog 28 #[.slice A m c,.int .i64 most] w fun e' w'=>e'=.returned (.int .i64 (cntL l most 0))∧∃ n,w'=w.drewN n:=by
 have hm1:=slE_len hs
 subst hm1
 have HS:=hid hs
 have HL:=hid hl
 have HG:=hid hg
 clear hs hl hg
 obtain ⟨tot,htot⟩:∃ tot,cntL l most 0=tot:=⟨_,rfl⟩
 have HT:=hid htot
 rw [htot]
 clear htot
 go_enter Tryz.func28,Tryz.ntmps28
 go_wp2_with fail
 go_loopw [5,6] (fun n i wr=>∃ (k:Nat) (v:Int) (j:Nat),k≤l.length∧i=.int .i64 k∧n=.int .i64 v∧tot=cntL (l.drop k) most v∧wr=w.drewN j) (fun _ i _=>l.length - (intOf i).toNat)
 case atStart=>exact ⟨0,0,0,Nat.zero_le _,rfl,rfl,by rw [List.drop_zero]; exact HT.out.symm,rfl⟩
 case round =>
  obtain ⟨k,v,j,hk,rfl,rfl,htk,rfl⟩:=hrel
  have HTK:=hid htk
  clear htk
  by_cases hlt:k<l.length
  ·by_cases hm:v≤most
   ·obtain ⟨a,ha⟩:∃ a,l[k]? = some a:=⟨l[k],List.getElem?_eq_getElem hlt⟩
    obtain ⟨g,o,rfl,_,hPg,hrows⟩:=u3n HS.out (by omega)
    obtain ⟨bk,bo,bn,bx,bA,bm,bc,⟨b0,b1,b2,b3,b4⟩,hrb⟩:=hrows k a ha
    have hin:(0:Int)≤k∧(k:Int)<l.length:=⟨by omega,by omega⟩
    have hmem:=List.mem_of_getElem? ha
    have hca:=HL.out a hmem
    have hga:=u7v HG.out a hmem
    obtain ⟨v1,hv1⟩:∃ v1,cntX a (wrap64 (most - v))=v1:=⟨_,rfl⟩
    obtain ⟨v0,hv0⟩:∃ v0,lgB (nmOf a)=v0:=⟨_,rfl⟩
    have hdrop:=cntL_drop l k a most v ha hm
    rw [hv1,hv0] at hdrop
    have HD:=hid (HTK.out.trans hdrop)
    have hq:bx=nmOf a∧SlE w (fun g=>g<w.heap.size) (.slice bA bm bc) (kidsOf a):=by
     cases a with
     | mk kind op num name kids =>
      rw [RE_eq] at hrb
      obtain ⟨K,hc,hK⟩:=hrb
      simp only [exRow,List.cons.injEq,Value.string.injEq,and_true] at hc
      exact ⟨bs_inj hc.2.2.2.1,by rw [hc.2.2.2.2]; exact hK⟩
    obtain ⟨hq1,hq2⟩:=hq
    have hnl:bx.length≤maxLen:=by
     rw [hq1]
     cases a with
     | mk kind op num name kids=>rw [rgE] at hga; exact hga.2.1
    have h1:∀ k:Nat,Calls Tryz.prog 52 #[.string (bs bx)] (w.drewN k) fun e w'=>e=.returned (.int .i64 v0)∧∃ m,w'=(w.drewN k).drewN m:=by
     rw [← hv0,← hq1]; exact long_n bx hnl w
    have h2:∀ k:Nat,Calls Tryz.prog 28 #[.slice bA bm bc,.int .i64 (wrap64 (most - v))] (w.drewN k) fun e w'=>e=.returned (.int .i64 v1)∧∃ m,w'=(w.drewN k).drewN m:=by
     rw [← hv1]; exact fun k=>hca (w.drewN k) _ _ _ _ (sl_drewN hq2 k) hga
    have H1:=hid h1
    have H2:=hid h2
    clear hrows hrb ha hmem hca hga hv1 hv0 hdrop hq1 hq2 hnl h1 h2
    go_wp2_with fail
    go_quiet ((first | (go_at_call 52; first | exact q_same H1.out | exact q_add H1.out) | (go_at_call 28; first | exact q_same H2.out | exact q_add H2.out)))
    go_wp2
    go_roundw
    case rel=>exact ⟨k+1,_,_,by omega,by go_num,rfl,HD.out,by first | rfl | (rw [World.drewN_drewN])⟩
    case measure=>simp [intOf]; omega
   ·have hm2:decide (v≤most)=false:=by simpa using hm
    have hstop:=cntL_stop (l.drop k) most v (.inr hm)
    have HST:=hid (HTK.out.trans hstop)
    clear hstop
    go_wp2
    go_ret
    exact ⟨by rw [HST.out]; rfl,_,rfl⟩
  ·have hd:l.drop k=[]:=List.drop_eq_nil_of_le (by omega)
   have hstop:=cntL_stop (l.drop k) most v (.inl hd)
   have HST:=hid (HTK.out.trans hstop)
   clear hstop hd
   go_wp2
   go_ret
   exact ⟨by rw [HST.out]; rfl,_,rfl⟩
mutual
theorem cx_all:(e:Ex)→CX e
 | .mk kind op num name kids=>fun w most A m c hs hg=>by
  rw [rgE] at hg
  have:=exprs_l kids (cxs_all kids) w most A m c hs hg.2.2.2 hg.2.2.1
  rw [cntX]; exact this
theorem cxs_all:(l:List Ex)→∀ a∈l,CX a
 | [],_,h=>by cases h
 | e :: r,a,h=>by
  rcases List.mem_cons.1 h with h1 | h1
  ·rw [h1]; exact cx_all e
  ·exact cxs_all r a h1
end
theorem exprs_28 (l:List Ex) (w:World) (most:Int) (A:Option Addr) (m c:Nat) (hs:SlE w (fun g=>g<w.heap.size) (.slice A m c) l) (hg:rgEs l) (hll:l.length≤1125899906842624) :
  Calls Tryz.prog 28 #[.slice A m c,.int .i64 most] w fun e' w'=>e'=.returned (.int .i64 (cntL l most 0))∧∃ n,w'=w.drewN n:=exprs_l l (cxs_all l) w most A m c hs hg hll
end Go.Proofs.YtbkhnilbgocpnaaGreatDoor.SynC
