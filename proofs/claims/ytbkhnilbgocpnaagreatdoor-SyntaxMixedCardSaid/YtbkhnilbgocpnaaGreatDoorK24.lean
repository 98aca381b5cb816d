import Derived.Deep.Slices
import Derived.OpenShut
import Derived.SizedLaws
import Derived.Deep.QuietTactic
import Derived.Test.YtbkhnilbgocpnaaGreatDoorK22
import Derived.Test.YtbkhnilbgocpnaaGreatDoorK0
set_option linter.unusedVariables false
set_option linter.unusedSimpArgs false
set_option maxRecDepth 100000
set_option maxHeartbeats 2000000
open Go.Lib (hid)
namespace Go.Proofs.YtbkhnilbgocpnaaGreatDoor.SynC
open Go.Proofs.YtbkhnilbgocpnaaGreatDoor.LexC
open Go Go.ChangeShapes Go.WideShapes Go.ChangeAt Go.RowKit Go.Deep
theorem list_of {α:Type} (Q:Nat→α→Prop):∀ (len:Nat),(∀ i,i<len→∃ a,Q i a)→∃ l:List α,l.length=len∧∀ i y,l[i]? = some y→Q i y
 | 0,_=>⟨[],rfl,fun i y h=>by simp at h⟩
 | k+1,hT=>by
  obtain ⟨L,h1,h2⟩:=list_of Q k fun i hi=>hT i (by omega)
  obtain ⟨t,ht⟩:=hT k (by omega)
  refine ⟨L++[t],by simp [h1],fun i u hu=>?_⟩
  by_cases hik:i<L.length
  ·rw [List.getElem?_append_left hik] at hu
   exact h2 i u hu
  ·have hl:=(List.getElem?_eq_some_iff.1 hu).1
   simp at hl
   have e:i=k:=by omega
   subst e
   rw [List.getElem?_append_right (by omega),h1] at hu
   simp at hu
   subst hu
   exact ht
section
variable {H:Type} {enc:TypeId × Value→H} {W:World} {base:Nat} {sp:Nat→Bool} {held:Bool}
def Wt (d:DataW H) (t:TypeId):Prop:=∀ n∈d.weights Tryz.prog t,n≤reachBytes
theorem mem_all {e:TypeId} {d:DataW H} {n:Nat} (hn:n∈d.weights Tryz.prog e):∀ l:List (DataW H),d∈l→n∈DataW.weightsAll Tryz.prog e l
 | [],h=>by cases h
 | a :: r,h=>by
  unfold DataW.weightsAll
  rcases List.mem_cons.1 h with rfl | h
  ·exact List.mem_append_left _ hn
  ·exact List.mem_append_right _ (mem_all hn r h)
theorem open_sl {α:Type} {t e:TypeId} {sz n:Nat} (ht:Tryz.prog.underlying t=some (.slice e)) (hc:Tryz.prog.cellsOf e=sz) (h0:0<sz) (hby:0<Tryz.prog.bytesOf e) {R:List Value→α→Prop}
  (hel:∀ m,m<n→∀ cs y,DataW.trod enc Tryz.prog W base sp held m e cs=some y→Wt y.1 e→∃ a,R cs a) {cs:List Value} {x:DataW H × List MemPlace} (h:DataW.trod enc Tryz.prog W base sp held n t cs=some x) (hw:Wt x.1 t) :
  ∃ A m c,∃ l:List α,cs=[.slice A m c]∧l.length≤1125899906842624∧((Value.slice A m c=.slice none 0 0∧l=[])∨∃ a c',Value.slice A m c=.slice (some a) l.length c'∧(l≠[]→a.block<W.heap.size)∧∀ i y,l[i]? = some y→∃ cs',At W (a.add (i * sz)) cs'∧R cs' y):=by
 rcases DataW.trod_slice ht h with ⟨hcs,_⟩ | ⟨a,len,cap,elems,rest,n',hn,hcs,hx,hb,hl,hm,hlen,hel2,_,_⟩
 ·exact ⟨none,0,0,[],hcs,by simp,.inl ⟨rfl,rfl⟩⟩
 ·subst hn
  have hwx:∀ k∈DataW.weights Tryz.prog t (.slice (elems.map (·.1)) (rest.map (·.1))),k≤reachBytes:=by rw [hx] at hw; exact hw
  unfold DataW.weights at hwx
  rw [ht] at hwx
  simp only [List.mem_cons,List.mem_append] at hwx
  have hbound:=hwx _ (.inl rfl)
  rw [List.length_map,List.length_map,hlen] at hbound
  have hlb:len≤1125899906842624:=by
   have h1:len≤(len+rest.length) * Tryz.prog.bytesOf e:=Nat.le_trans (Nat.le_add_right _ _) (Nat.le_mul_of_pos_right _ hby)
   have h2:reachBytes≤1125899906842624:=by unfold reachBytes; omega
   omega
  have hT:∀ i,i<len→∃ y:α,a.block<W.heap.size∧∃ cs',At W (a.add (i * sz)) cs'∧R cs' y:=by
   intro i hil
   have h1:=hel2 i hil
   rw [List.getElem?_eq_getElem (by omega)] at h1
   obtain ⟨cs',hc1,ht1⟩:=Option.bind_eq_some_iff.1 h1
   rw [hc] at hc1
   obtain ⟨_,hlc,hat⟩:=World.cells?_some hc1
   obtain ⟨y,hy⟩:=hel n' (by omega) cs' _ ht1 (fun k hk=>hwx k (.inr (.inl (mem_all hk _ (List.mem_map.2 ⟨_,List.getElem_mem (by omega),rfl⟩)))))
   have hA:At W (a.add (i * sz)) cs':=fun j u hu=>by
    have hj:=(List.getElem?_eq_some_iff.1 hu).1
    rw [hat j (by omega)]; exact hu
   refine ⟨y,?_,cs',hA,hy⟩
   obtain ⟨u,hu⟩:∃ u,cs'[0]? = some u:=⟨_,List.getElem?_eq_getElem (show 0<cs'.length by omega)⟩
   have h2:=hA 0 u hu
   have h3:=World.block_lt_of_cell? W _ h2
   rwa [u6t,u6t] at h3
  obtain ⟨l,hl1,hl2⟩:=list_of _ len hT
  refine ⟨some a,len,cap,l,hcs,by omega,.inr ⟨a,cap,by rw [hl1],fun hne=>?_,fun i y hy=>(hl2 i y hy).2⟩⟩
  cases l with
  | nil=>exact absurd rfl hne
  | cons y r=>exact (hl2 0 y rfl).1
theorem open_st {t:TypeId} {fs:Array Field} {n:Nat} {cs:List Value} {x:DataW H × List MemPlace} (ht:Tryz.prog.underlying t=some (.struct fs)) (h:DataW.trod enc Tryz.prog W base sp held n t cs=some x) (hw:Wt x.1 t) :
  ∃ m,n=m+1∧cs.length=Tryz.prog.cellsOf t∧∀ (j:Nat) (f:Field),fs[j]? = some f→∃ y,DataW.trod enc Tryz.prog W base sp held m f.type ((cs.drop f.offset).take (Tryz.prog.cellsOf f.type))=some y∧Wt y.1 f.type:=by
 obtain ⟨xs,m,hn,hx,hlen,hn2,hf⟩:=DataW.trod_struct ht h
 refine ⟨m,hn,hlen,fun j f hj=>?_⟩
 have hjl:j<fs.size:=(Array.getElem?_eq_some_iff.1 hj).1
 refine ⟨xs[j],by rw [hf j f hj,List.getElem?_eq_getElem (by omega)],fun k hk=>?_⟩
 have hwx:∀ k∈DataW.weights Tryz.prog t (.agg (xs.map (·.1))),k≤reachBytes:=by rw [hx] at hw; exact hw
 unfold DataW.weights at hwx
 rw [ht] at hwx
 exact hwx k (DataW.weights_mem_each (j:=j) (t:=f.type) (d:=xs[j].1) (by rw [List.getElem?_map,Array.getElem?_toList,hj]; rfl) (by rw [List.getElem?_map,List.getElem?_eq_getElem (by omega)]; rfl) k hk)
theorem open_E:∀ (n:Nat),(∀ m,m<n→∀ (cs:List Value) (x:DataW H × List MemPlace),DataW.trod enc Tryz.prog W base sp held m 32 cs=some x→Wt x.1 32→∃ A k c l,cs=[.slice A k c]∧SlE W (fun g=>g<W.heap.size) (.slice A k c) l∧rgEs l∧l.length≤1125899906842624) →
  ∀ (cs:List Value) (x:DataW H × List MemPlace),DataW.trod enc Tryz.prog W base sp held n 34 cs=some x→Wt x.1 34→∃ e,RE W (fun g=>g<W.heap.size) cs e∧rgE e:=by
 intro n ih cs x h hw
 obtain ⟨m,hn,hlen,hf⟩:=open_st Tryz.underlying34 h hw
 rw [show Tryz.prog.cellsOf 34=5 by kernel_rfl] at hlen
 match cs,hlen with
 | [a,b,c,d,e],_ =>
  have t0:∃ y,DataW.trod enc Tryz.prog W base sp held m 3 (([a,b,c,d,e].drop 0).take (Tryz.prog.cellsOf 3))=some y∧Wt y.1 3:=hf 0 _ rfl
  rw [show Tryz.prog.cellsOf 3=1 by kernel_rfl] at t0
  obtain ⟨y0,h0,w0⟩:=t0
  replace h0:DataW.trod enc Tryz.prog W base sp held m 3 [a]=some y0:=h0
  have t1:∃ y,DataW.trod enc Tryz.prog W base sp held m 3 (([a,b,c,d,e].drop 1).take (Tryz.prog.cellsOf 3))=some y∧Wt y.1 3:=hf 1 _ rfl
  rw [show Tryz.prog.cellsOf 3=1 by kernel_rfl] at t1
  obtain ⟨y1,h1,w1⟩:=t1
  replace h1:DataW.trod enc Tryz.prog W base sp held m 3 [b]=some y1:=h1
  have t2:∃ y,DataW.trod enc Tryz.prog W base sp held m 21 (([a,b,c,d,e].drop 2).take (Tryz.prog.cellsOf 21))=some y∧Wt y.1 21:=hf 2 _ rfl
  rw [show Tryz.prog.cellsOf 21=1 by kernel_rfl] at t2
  obtain ⟨y2,h2,w2⟩:=t2
  replace h2:DataW.trod enc Tryz.prog W base sp held m 21 [c]=some y2:=h2
  have t3:∃ y,DataW.trod enc Tryz.prog W base sp held m 9 (([a,b,c,d,e].drop 3).take (Tryz.prog.cellsOf 9))=some y∧Wt y.1 9:=hf 3 _ rfl
  rw [show Tryz.prog.cellsOf 9=1 by kernel_rfl] at t3
  obtain ⟨y3,h3,w3⟩:=t3
  replace h3:DataW.trod enc Tryz.prog W base sp held m 9 [d]=some y3:=h3
  have t4:∃ y,DataW.trod enc Tryz.prog W base sp held m 32 (([a,b,c,d,e].drop 4).take (Tryz.prog.cellsOf 32))=some y∧Wt y.1 32:=hf 4 _ rfl
  rw [show Tryz.prog.cellsOf 32=1 by kernel_rfl] at t4
  obtain ⟨y4,h4,w4⟩:=t4
  replace h4:DataW.trod enc Tryz.prog W base sp held m 32 [e]=some y4:=h4
  obtain ⟨i0,e0,_,f0⟩:=DataW.trod_int Tryz.underlying3 h0
  simp only [List.cons.injEq,and_true] at e0
  subst e0
  obtain ⟨i1,e1,_,f1⟩:=DataW.trod_int Tryz.underlying3 h1
  simp only [List.cons.injEq,and_true] at e1
  subst e1
  obtain ⟨i2,e2,_,f2⟩:=DataW.trod_int Tryz.underlying21 h2
  simp only [List.cons.injEq,and_true] at e2
  subst e2
  obtain ⟨i3,e3,_,f3⟩:=DataW.trod_string Tryz.underlying9 h3
  simp only [List.cons.injEq,and_true] at e3
  subst e3
  obtain ⟨A4,m4,c4,l4,e4,s4,r4,n4⟩:=ih m (by omega) _ _ h4 w4
  simp only [List.cons.injEq,and_true] at e4
  subst e4
  refine ⟨.mk i0 i1 i2 i3.data.toList l4,?_,?_⟩
  ·rw [RE_eq]; exact ⟨_,by rw [exRow,u7j],s4⟩
  ·rw [rgE]; have:=bounds_i32 f2; exact ⟨by omega,by rw [u0l]; exact f3,n4,r4⟩
theorem rEs_of {a:Addr}:∀ (l:List Ex) (a:Addr),(∀ i y,l[i]? = some y→∃ cs',At W (a.add (i * 5)) cs'∧RE W (fun g=>g<W.heap.size) cs' y)→REs W (fun g=>g<W.heap.size) a l
 | [],_,_=>by rw [REs]; trivial
 | e :: r,a,h=>by
  rw [REs]
  refine ⟨?_,rEs_of (a:=a) r _ fun i y hy=>?_⟩
  ·obtain ⟨cs,h1,h2⟩:=h 0 e rfl
   rw [Nat.zero_mul,add_zero'] at h1
   exact ⟨cs,h1,h2⟩
  ·obtain ⟨cs,h1,h2⟩:=h (i+1) y (by simpa using hy)
   rw [add_add]
   exact ⟨cs,by rw [show 5+i * 5=(i+1) * 5 by omega]; exact h1,h2⟩
theorem rgEs_of:∀ (l:List Ex),(∀ (i:Nat) y,l[i]? = some y→rgE y)→rgEs l
 | [],_=>by rw [rgEs]; trivial
 | e :: r,h=>by rw [rgEs]; exact ⟨h 0 e rfl,rgEs_of r fun i y hy=>h (i+1) y (by simpa using hy)⟩
theorem open_Es:∀ (n:Nat) (cs:List Value) (x:DataW H × List MemPlace),DataW.trod enc Tryz.prog W base sp held n 32 cs=some x→Wt x.1 32→∃ A k c l,cs=[.slice A k c]∧SlE W (fun g=>g<W.heap.size) (.slice A k c) l∧rgEs l∧l.length≤1125899906842624:=by
 intro n
 induction n using Nat.strongRecOn with
 | ind n ih =>
  intro cs x h hw
  obtain ⟨A,k,c,l,hcs,hl,hr⟩:=open_sl (R:=fun cs e=>RE W (fun g=>g<W.heap.size) cs e∧rgE e) Tryz.underlying32 (show Tryz.prog.cellsOf 34=5 by kernel_rfl) (by omega) (show 0<Tryz.prog.bytesOf 34 from of_decide_eq_true (by kernel_rfl))
   (fun m hm cs y hy hwy=>open_E m (fun m' hm'=>ih m' (by omega)) cs y hy hwy) h hw
  refine ⟨A,k,c,l,hcs,?_,?_,hl⟩
  ·rcases hr with hr | ⟨a,c',h1,h2,h3⟩
   ·exact .inl hr
   ·exact .inr ⟨a,c',h1,h2,rEs_of (a:=a) l a fun i y hy=>(h3 i y hy).imp fun cs' h=>⟨h.1,h.2.1⟩⟩
  ·rcases hr with hr | ⟨a,c',h1,h2,h3⟩
   ·rw [hr.2]; rw [rgEs]; trivial
   ·exact rgEs_of l fun i y hy=>(h3 i y hy).elim fun cs' h=>h.2.2
theorem open_S:∀ (n:Nat),(∀ m,m<n→∀ (cs:List Value) (x:DataW H × List MemPlace),DataW.trod enc Tryz.prog W base sp held m 69 cs=some x→Wt x.1 69→∃ A k c l,cs=[.slice A k c]∧SlS W (fun g=>g<W.heap.size) (.slice A k c) l∧rgSs l∧l.length≤1125899906842624) →
  ∀ (cs:List Value) (x:DataW H × List MemPlace),DataW.trod enc Tryz.prog W base sp held n 136 cs=some x→Wt x.1 136→∃ e,RS W (fun g=>g<W.heap.size) cs e∧rgS e:=by
 intro n ih cs x h hw
 obtain ⟨m,hn,hlen,hf⟩:=open_st Tryz.underlying136 h hw
 rw [show Tryz.prog.cellsOf 136=6 by kernel_rfl] at hlen
 match cs,hlen with
 | [a,b,c,d,e,f],_ =>
  have t0:∃ y,DataW.trod enc Tryz.prog W base sp held m 3 (([a,b,c,d,e,f].drop 0).take (Tryz.prog.cellsOf 3))=some y∧Wt y.1 3:=hf 0 _ rfl
  rw [show Tryz.prog.cellsOf 3=1 by kernel_rfl] at t0
  obtain ⟨y0,h0,w0⟩:=t0
  replace h0:DataW.trod enc Tryz.prog W base sp held m 3 [a]=some y0:=h0
  have t1:∃ y,DataW.trod enc Tryz.prog W base sp held m 3 (([a,b,c,d,e,f].drop 1).take (Tryz.prog.cellsOf 3))=some y∧Wt y.1 3:=hf 1 _ rfl
  rw [show Tryz.prog.cellsOf 3=1 by kernel_rfl] at t1
  obtain ⟨y1,h1,w1⟩:=t1
  replace h1:DataW.trod enc Tryz.prog W base sp held m 3 [b]=some y1:=h1
  have t2:∃ y,DataW.trod enc Tryz.prog W base sp held m 9 (([a,b,c,d,e,f].drop 2).take (Tryz.prog.cellsOf 9))=some y∧Wt y.1 9:=hf 2 _ rfl
  rw [show Tryz.prog.cellsOf 9=1 by kernel_rfl] at t2
  obtain ⟨y2,h2,w2⟩:=t2
  replace h2:DataW.trod enc Tryz.prog W base sp held m 9 [c]=some y2:=h2
  have t3:∃ y,DataW.trod enc Tryz.prog W base sp held m 32 (([a,b,c,d,e,f].drop 3).take (Tryz.prog.cellsOf 32))=some y∧Wt y.1 32:=hf 3 _ rfl
  rw [show Tryz.prog.cellsOf 32=1 by kernel_rfl] at t3
  obtain ⟨y3,h3,w3⟩:=t3
  replace h3:DataW.trod enc Tryz.prog W base sp held m 32 [d]=some y3:=h3
  have t4:∃ y,DataW.trod enc Tryz.prog W base sp held m 69 (([a,b,c,d,e,f].drop 4).take (Tryz.prog.cellsOf 69))=some y∧Wt y.1 69:=hf 4 _ rfl
  rw [show Tryz.prog.cellsOf 69=1 by kernel_rfl] at t4
  obtain ⟨y4,h4,w4⟩:=t4
  replace h4:DataW.trod enc Tryz.prog W base sp held m 69 [e]=some y4:=h4
  have t5:∃ y,DataW.trod enc Tryz.prog W base sp held m 69 (([a,b,c,d,e,f].drop 5).take (Tryz.prog.cellsOf 69))=some y∧Wt y.1 69:=hf 5 _ rfl
  rw [show Tryz.prog.cellsOf 69=1 by kernel_rfl] at t5
  obtain ⟨y5,h5,w5⟩:=t5
  replace h5:DataW.trod enc Tryz.prog W base sp held m 69 [f]=some y5:=h5
  obtain ⟨i0,e0,_,f0⟩:=DataW.trod_int Tryz.underlying3 h0
  simp only [List.cons.injEq,and_true] at e0
  subst e0
  obtain ⟨i1,e1,_,f1⟩:=DataW.trod_int Tryz.underlying3 h1
  simp only [List.cons.injEq,and_true] at e1
  subst e1
  obtain ⟨i2,e2,_,f2⟩:=DataW.trod_string Tryz.underlying9 h2
  simp only [List.cons.injEq,and_true] at e2
  subst e2
  obtain ⟨A3,m3,c3,l3,e3,s3,r3,n3⟩:=open_Es m _ _ h3 w3
  simp only [List.cons.injEq,and_true] at e3
  subst e3
  obtain ⟨A4,m4,c4,l4,e4,s4,r4,n4⟩:=ih m (by omega) _ _ h4 w4
  simp only [List.cons.injEq,and_true] at e4
  subst e4
  obtain ⟨A5,m5,c5,l5,e5,s5,r5,n5⟩:=ih m (by omega) _ _ h5 w5
  simp only [List.cons.injEq,and_true] at e5
  subst e5
  refine ⟨.mk i0 i1 i2.data.toList l3 l4 l5,?_,?_⟩
  ·rw [RS_eq]; exact ⟨_,_,_,by rw [stRow,u7j],s3,s4,s5⟩
  ·rw [rgS]; exact ⟨by rw [u0l]; exact f2,⟨n3,r3⟩,⟨n4,r4⟩,n5,r5⟩
theorem rSs_of:∀ (l:List St) (a:Addr),(∀ i y,l[i]? = some y→∃ cs',At W (a.add (i * 6)) cs'∧RS W (fun g=>g<W.heap.size) cs' y)→RSs W (fun g=>g<W.heap.size) a l
 | [],_,_=>by rw [RSs]; trivial
 | e :: r,a,h=>by
  rw [RSs]
  refine ⟨?_,rSs_of r _ fun i y hy=>?_⟩
  ·obtain ⟨cs,h1,h2⟩:=h 0 e rfl
   rw [Nat.zero_mul,add_zero'] at h1
   exact ⟨cs,h1,h2⟩
  ·obtain ⟨cs,h1,h2⟩:=h (i+1) y (by simpa using hy)
   rw [add_add]
   exact ⟨cs,by rw [show 6+i * 6=(i+1) * 6 by omega]; exact h1,h2⟩
theorem rgSs_of:∀ (l:List St),(∀ (i:Nat) y,l[i]? = some y→rgS y)→rgSs l
 | [],_=>by rw [rgSs]; trivial
 | e :: r,h=>by rw [rgSs]; exact ⟨h 0 e rfl,rgSs_of r fun i y hy=>h (i+1) y (by simpa using hy)⟩
theorem open_Ss:∀ (n:Nat) (cs:List Value) (x:DataW H × List MemPlace),DataW.trod enc Tryz.prog W base sp held n 69 cs=some x→Wt x.1 69→∃ A k c l,cs=[.slice A k c]∧SlS W (fun g=>g<W.heap.size) (.slice A k c) l∧rgSs l∧l.length≤1125899906842624:=by
 intro n
 induction n using Nat.strongRecOn with
 | ind n ih =>
  intro cs x h hw
  obtain ⟨A,k,c,l,hcs,hl,hr⟩:=open_sl (R:=fun cs e=>RS W (fun g=>g<W.heap.size) cs e∧rgS e) Tryz.underlying69 (show Tryz.prog.cellsOf 136=6 by kernel_rfl) (by omega) (show 0<Tryz.prog.bytesOf 136 from of_decide_eq_true (by kernel_rfl))
   (fun m hm cs y hy hwy=>open_S m (fun m' hm'=>ih m' (by omega)) cs y hy hwy) h hw
  refine ⟨A,k,c,l,hcs,?_,?_,hl⟩
  ·rcases hr with hr | ⟨a,c',h1,h2,h3⟩
   ·exact .inl hr
   ·exact .inr ⟨a,c',h1,h2,rSs_of l a fun i y hy=>(h3 i y hy).imp fun cs' h=>⟨h.1,h.2.1⟩⟩
  ·rcases hr with hr | ⟨a,c',h1,h2,h3⟩
   ·rw [hr.2]; rw [rgSs]; trivial
   ·exact rgSs_of l fun i y hy=>(h3 i y hy).elim fun cs' h=>h.2.2
theorem rG_of {α:Type} {rd:Rd α} {sz:Nat}:∀ (l:List α) (a:Addr),(∀ i y,l[i]? = some y→∃ cs',At W (a.add (i * sz)) cs'∧rd (fun g=>g<W.heap.size) W cs' y)→RG rd sz (fun g=>g<W.heap.size) W a l
 | [],_,_=>trivial
 | e :: r,a,h=>by
  refine ⟨?_,rG_of r _ fun i y hy=>?_⟩
  ·obtain ⟨cs,h1,h2⟩:=h 0 e rfl
   rw [Nat.zero_mul,add_zero'] at h1
   exact ⟨cs,h1,h2⟩
  ·obtain ⟨cs,h1,h2⟩:=h (i+1) y (by simpa using hy)
   rw [add_add]
   exact ⟨cs,by rw [show sz+i * sz=(i+1) * sz by rw [Nat.add_mul]; omega]; exact h1,h2⟩
theorem open_rows {α:Type} {rd:Rd α} {Q:α→Prop} {t e:TypeId} {sz n:Nat} (ht:Tryz.prog.underlying t=some (.slice e)) (hc:Tryz.prog.cellsOf e=sz) (h0:0<sz) (hby:0<Tryz.prog.bytesOf e)
  (hel:∀ m cs (y:DataW H × List MemPlace),DataW.trod enc Tryz.prog W base sp held m e cs=some y→Wt y.1 e→∃ a,rd (fun g=>g<W.heap.size) W cs a∧Q a) {cs:List Value} {x:DataW H × List MemPlace} (h:DataW.trod enc Tryz.prog W base sp held n t cs=some x) (hw:Wt x.1 t) :
  ∃ A k c l,cs=[.slice A k c]∧SlR rd sz (fun g=>g<W.heap.size) W (.slice A k c) l∧(∀ a∈l,Q a)∧l.length≤1125899906842624:=by
 obtain ⟨A,k,c,l,hcs,hl,hr⟩:=open_sl (R:=fun cs a=>rd (fun g=>g<W.heap.size) W cs a∧Q a) ht hc h0 hby (fun m _=>hel m) h hw
 refine ⟨A,k,c,l,hcs,?_,?_,hl⟩
 ·rcases hr with hr | ⟨a,c',h1,h2,h3⟩
  ·exact .inl hr
  ·exact .inr ⟨a,c',h1,h2,rG_of l a fun i y hy=>(h3 i y hy).imp fun cs' h=>⟨h.1,h.2.1⟩⟩
 ·intro a ha
  rcases hr with hr | ⟨a',c',h1,h2,h3⟩
  ·rw [hr.2] at ha; cases ha
  ·obtain ⟨i,hi⟩:=List.getElem?_of_mem ha
   exact (h3 i a hi).elim fun cs' h=>h.2.2
theorem open_N {n:Nat} {cs:List Value} {x:DataW H × List MemPlace} (h:DataW.trod enc Tryz.prog W base sp held n 9 cs=some x):∃ a:List UInt8,rdN (fun g=>g<W.heap.size) W cs a∧a.length≤maxLen:=by
 obtain ⟨i,e,_,f⟩:=DataW.trod_string Tryz.underlying9 h
 exact ⟨i.data.toList,by show cs=_; rw [e,u7j],by rw [u0l]; exact f⟩
theorem open_P {n:Nat} {cs:List Value} {x:DataW H × List MemPlace} (h:DataW.trod enc Tryz.prog W base sp held n 92 cs=some x) (hw:Wt x.1 92):∃ a:List UInt8 × Bool,rdP (fun g=>g<W.heap.size) W cs a∧a.1.length≤maxLen:=by
 obtain ⟨m,hn,hlen,hf⟩:=open_st Tryz.underlying92 h hw
 rw [show Tryz.prog.cellsOf 92=2 by kernel_rfl] at hlen
 match cs,hlen with
 | [a,b],_ =>
  have t0:∃ y,DataW.trod enc Tryz.prog W base sp held m 9 (([a,b].drop 0).take (Tryz.prog.cellsOf 9))=some y∧Wt y.1 9:=hf 0 _ rfl
  rw [show Tryz.prog.cellsOf 9=1 by kernel_rfl] at t0
  obtain ⟨y0,h0,w0⟩:=t0
  replace h0:DataW.trod enc Tryz.prog W base sp held m 9 [a]=some y0:=h0
  have t1:∃ y,DataW.trod enc Tryz.prog W base sp held m 4 (([a,b].drop 1).take (Tryz.prog.cellsOf 4))=some y∧Wt y.1 4:=hf 1 _ rfl
  rw [show Tryz.prog.cellsOf 4=1 by kernel_rfl] at t1
  obtain ⟨y1,h1,w1⟩:=t1
  replace h1:DataW.trod enc Tryz.prog W base sp held m 4 [b]=some y1:=h1
  obtain ⟨i0,e0,_,f0⟩:=DataW.trod_string Tryz.underlying9 h0
  simp only [List.cons.injEq,and_true] at e0
  subst e0
  obtain ⟨i1,e1,_⟩:=DataW.trod_bool Tryz.underlying4 h1
  simp only [List.cons.injEq,and_true] at e1
  subst e1
  exact ⟨(i0.data.toList,i1),by show _=_; rw [u7j],by rw [u0l]; exact f0⟩
theorem open_A {n:Nat} {cs:List Value} {x:DataW H × List MemPlace} (h:DataW.trod enc Tryz.prog W base sp held n 94 cs=some x) (hw:Wt x.1 94):∃ a:List UInt8 × Int,rdA (fun g=>g<W.heap.size) W cs a∧a.1.length≤maxLen:=by
 obtain ⟨m,hn,hlen,hf⟩:=open_st Tryz.underlying94 h hw
 rw [show Tryz.prog.cellsOf 94=2 by kernel_rfl] at hlen
 match cs,hlen with
 | [a,b],_ =>
  have t0:∃ y,DataW.trod enc Tryz.prog W base sp held m 9 (([a,b].drop 0).take (Tryz.prog.cellsOf 9))=some y∧Wt y.1 9:=hf 0 _ rfl
  rw [show Tryz.prog.cellsOf 9=1 by kernel_rfl] at t0
  obtain ⟨y0,h0,w0⟩:=t0
  replace h0:DataW.trod enc Tryz.prog W base sp held m 9 [a]=some y0:=h0
  have t1:∃ y,DataW.trod enc Tryz.prog W base sp held m 3 (([a,b].drop 1).take (Tryz.prog.cellsOf 3))=some y∧Wt y.1 3:=hf 1 _ rfl
  rw [show Tryz.prog.cellsOf 3=1 by kernel_rfl] at t1
  obtain ⟨y1,h1,w1⟩:=t1
  replace h1:DataW.trod enc Tryz.prog W base sp held m 3 [b]=some y1:=h1
  obtain ⟨i0,e0,_,f0⟩:=DataW.trod_string Tryz.underlying9 h0
  simp only [List.cons.injEq,and_true] at e0
  subst e0
  obtain ⟨i1,e1,_,f1⟩:=DataW.trod_int Tryz.underlying3 h1
  simp only [List.cons.injEq,and_true] at e1
  subst e1
  exact ⟨(i0.data.toList,i1),by show _=_; rw [u7j],by rw [u0l]; exact f0⟩
theorem open_Ns {n:Nat} {cs:List Value} {x:DataW H × List MemPlace} (h:DataW.trod enc Tryz.prog W base sp held n 68 cs=some x) (hw:Wt x.1 68):∃ A k c l,cs=[.slice A k c]∧SlR rdN 1 (fun g=>g<W.heap.size) W (.slice A k c) l∧(∀ a∈l,a.length≤maxLen)∧l.length≤1125899906842624 :=
 open_rows Tryz.underlying68 (show Tryz.prog.cellsOf 9=1 by kernel_rfl) (by omega) (show 0<Tryz.prog.bytesOf 9 from of_decide_eq_true (by kernel_rfl)) (fun m cs y hy _=>open_N hy) h hw
theorem open_Ps {n:Nat} {cs:List Value} {x:DataW H × List MemPlace} (h:DataW.trod enc Tryz.prog W base sp held n 72 cs=some x) (hw:Wt x.1 72):∃ A k c l,cs=[.slice A k c]∧SlR rdP 2 (fun g=>g<W.heap.size) W (.slice A k c) l∧(∀ a∈l,a.1.length≤maxLen)∧l.length≤1125899906842624 :=
 open_rows Tryz.underlying72 (show Tryz.prog.cellsOf 92=2 by kernel_rfl) (by omega) (show 0<Tryz.prog.bytesOf 92 from of_decide_eq_true (by kernel_rfl)) (fun m cs y hy hwy=>open_P hy hwy) h hw
theorem open_As {n:Nat} {cs:List Value} {x:DataW H × List MemPlace} (h:DataW.trod enc Tryz.prog W base sp held n 73 cs=some x) (hw:Wt x.1 73):∃ A k c l,cs=[.slice A k c]∧SlR rdA 2 (fun g=>g<W.heap.size) W (.slice A k c) l∧(∀ a∈l,a.1.length≤maxLen)∧l.length≤1125899906842624 :=
 open_rows Tryz.underlying73 (show Tryz.prog.cellsOf 94=2 by kernel_rfl) (by omega) (show 0<Tryz.prog.bytesOf 94 from of_decide_eq_true (by kernel_rfl)) (fun m cs y hy hwy=>open_A hy hwy) h hw
theorem open_F {n:Nat} {cs:List Value} {x:DataW H × List MemPlace} (h:DataW.trod enc Tryz.prog W base sp held n 71 cs=some x) (hw:Wt x.1 71):∃ a:Fn,rdF (fun g=>g<W.heap.size) W cs a∧rgF a:=by
 obtain ⟨m,hn,hlen,hf⟩:=open_st Tryz.underlying71 h hw
 rw [show Tryz.prog.cellsOf 71=3 by kernel_rfl] at hlen
 match cs,hlen with
 | [a,b,c],_ =>
  have t0:∃ y,DataW.trod enc Tryz.prog W base sp held m 9 (([a,b,c].drop 0).take (Tryz.prog.cellsOf 9))=some y∧Wt y.1 9:=hf 0 _ rfl
  rw [show Tryz.prog.cellsOf 9=1 by kernel_rfl] at t0
  obtain ⟨y0,h0,w0⟩:=t0
  replace h0:DataW.trod enc Tryz.prog W base sp held m 9 [a]=some y0:=h0
  have t1:∃ y,DataW.trod enc Tryz.prog W base sp held m 68 (([a,b,c].drop 1).take (Tryz.prog.cellsOf 68))=some y∧Wt y.1 68:=hf 1 _ rfl
  rw [show Tryz.prog.cellsOf 68=1 by kernel_rfl] at t1
  obtain ⟨y1,h1,w1⟩:=t1
  replace h1:DataW.trod enc Tryz.prog W base sp held m 68 [b]=some y1:=h1
  have t2:∃ y,DataW.trod enc Tryz.prog W base sp held m 69 (([a,b,c].drop 2).take (Tryz.prog.cellsOf 69))=some y∧Wt y.1 69:=hf 2 _ rfl
  rw [show Tryz.prog.cellsOf 69=1 by kernel_rfl] at t2
  obtain ⟨y2,h2,w2⟩:=t2
  replace h2:DataW.trod enc Tryz.prog W base sp held m 69 [c]=some y2:=h2
  obtain ⟨i0,e0,_,f0⟩:=DataW.trod_string Tryz.underlying9 h0
  simp only [List.cons.injEq,and_true] at e0
  subst e0
  obtain ⟨A1,m1,c1,l1,e1,s1,r1,n1⟩:=open_Ns h1 w1
  simp only [List.cons.injEq,and_true] at e1
  subst e1
  obtain ⟨A2,m2,c2,l2,e2,s2,r2,n2⟩:=open_Ss m _ _ h2 w2
  simp only [List.cons.injEq,and_true] at e2
  subst e2
  exact ⟨⟨i0.data.toList,l1,l2⟩,⟨_,_,_,_,_,_,by rw [u7j],s1,s2⟩,by rw [u0l]; exact f0,r1,n1,n2,r2⟩
theorem open_K {n:Nat} {cs:List Value} {x:DataW H × List MemPlace} (h:DataW.trod enc Tryz.prog W base sp held n 75 cs=some x) (hw:Wt x.1 75):∃ a:Kr,rdK (fun g=>g<W.heap.size) W cs a∧rgK a:=by
 obtain ⟨m,hn,hlen,hf⟩:=open_st Tryz.underlying75 h hw
 rw [show Tryz.prog.cellsOf 75=4 by kernel_rfl] at hlen
 match cs,hlen with
 | [a,b,c,d],_ =>
  have t0:∃ y,DataW.trod enc Tryz.prog W base sp held m 9 (([a,b,c,d].drop 0).take (Tryz.prog.cellsOf 9))=some y∧Wt y.1 9:=hf 0 _ rfl
  rw [show Tryz.prog.cellsOf 9=1 by kernel_rfl] at t0
  obtain ⟨y0,h0,w0⟩:=t0
  replace h0:DataW.trod enc Tryz.prog W base sp held m 9 [a]=some y0:=h0
  have t1:∃ y,DataW.trod enc Tryz.prog W base sp held m 72 (([a,b,c,d].drop 1).take (Tryz.prog.cellsOf 72))=some y∧Wt y.1 72:=hf 1 _ rfl
  rw [show Tryz.prog.cellsOf 72=1 by kernel_rfl] at t1
  obtain ⟨y1,h1,w1⟩:=t1
  replace h1:DataW.trod enc Tryz.prog W base sp held m 72 [b]=some y1:=h1
  have t2:∃ y,DataW.trod enc Tryz.prog W base sp held m 73 (([a,b,c,d].drop 2).take (Tryz.prog.cellsOf 73))=some y∧Wt y.1 73:=hf 2 _ rfl
  rw [show Tryz.prog.cellsOf 73=1 by kernel_rfl] at t2
  obtain ⟨y2,h2,w2⟩:=t2
  replace h2:DataW.trod enc Tryz.prog W base sp held m 73 [c]=some y2:=h2
  have t3:∃ y,DataW.trod enc Tryz.prog W base sp held m 69 (([a,b,c,d].drop 3).take (Tryz.prog.cellsOf 69))=some y∧Wt y.1 69:=hf 3 _ rfl
  rw [show Tryz.prog.cellsOf 69=1 by kernel_rfl] at t3
  obtain ⟨y3,h3,w3⟩:=t3
  replace h3:DataW.trod enc Tryz.prog W base sp held m 69 [d]=some y3:=h3
  obtain ⟨i0,e0,_,f0⟩:=DataW.trod_string Tryz.underlying9 h0
  simp only [List.cons.injEq,and_true] at e0
  subst e0
  obtain ⟨A1,m1,c1,l1,e1,s1,r1,n1⟩:=open_Ps h1 w1
  simp only [List.cons.injEq,and_true] at e1
  subst e1
  obtain ⟨A2,m2,c2,l2,e2,s2,r2,n2⟩:=open_As h2 w2
  simp only [List.cons.injEq,and_true] at e2
  subst e2
  obtain ⟨A3,m3,c3,l3,e3,s3,r3,n3⟩:=open_Ss m _ _ h3 w3
  simp only [List.cons.injEq,and_true] at e3
  subst e3
  exact ⟨⟨i0.data.toList,l1,l2,l3⟩,⟨_,_,_,_,_,_,_,_,_,by rw [u7j],s1,s2,s3⟩,by rw [u0l]; exact f0,r1,n1,r2,n2,n3,r3⟩
structure PgAr (w:World) (A:Option Addr) (m c:Nat) (B:Option Addr) (mb cb:Nat) (q:Pg):Prop where
 f:SlR rdF 3 (fun g=>g<w.heap.size) w (.slice A m c) q.fns
 k:SlR rdK 4 (fun g=>g<w.heap.size) w (.slice B mb cb) q.krs
 gf:∀ a∈q.fns,rgF a
 gk:∀ a∈q.krs,rgK a
 lf:q.fns.length≤1125899906842624
 lk:q.krs.length≤1125899906842624
theorem open_pg {n:Nat} {cs:List Value} {x:DataW H × List MemPlace} (h:DataW.trod enc Tryz.prog W base sp held n 26 cs=some x) (hw:Wt x.1 26):∃ A m c B mb cb q,cs=[.slice A m c,.slice B mb cb]∧PgAr W A m c B mb cb q:=by
 obtain ⟨m,hn,hlen,hf⟩:=open_st Tryz.underlying26 h hw
 rw [show Tryz.prog.cellsOf 26=2 by kernel_rfl] at hlen
 match cs,hlen with
 | [a,b],_ =>
  have t0:∃ y,DataW.trod enc Tryz.prog W base sp held m 23 (([a,b].drop 0).take (Tryz.prog.cellsOf 23))=some y∧Wt y.1 23:=hf 0 _ rfl
  rw [show Tryz.prog.cellsOf 23=1 by kernel_rfl] at t0
  obtain ⟨y0,h0,w0⟩:=t0
  replace h0:DataW.trod enc Tryz.prog W base sp held m 23 [a]=some y0:=h0
  have t1:∃ y,DataW.trod enc Tryz.prog W base sp held m 24 (([a,b].drop 1).take (Tryz.prog.cellsOf 24))=some y∧Wt y.1 24:=hf 1 _ rfl
  rw [show Tryz.prog.cellsOf 24=1 by kernel_rfl] at t1
  obtain ⟨y1,h1,w1⟩:=t1
  replace h1:DataW.trod enc Tryz.prog W base sp held m 24 [b]=some y1:=h1
  obtain ⟨A,k,c,l,e0,s0,r0,n0⟩:=open_rows (rd:=rdF) (Q:=rgF) Tryz.underlying23 (show Tryz.prog.cellsOf 71=3 by kernel_rfl) (by omega) (show 0<Tryz.prog.bytesOf 71 from of_decide_eq_true (by kernel_rfl)) (fun m cs y hy hwy=>open_F hy hwy) h0 w0
  obtain ⟨A1,k1,c1,l1,e1,s1,r1,n1⟩:=open_rows (rd:=rdK) (Q:=rgK) Tryz.underlying24 (show Tryz.prog.cellsOf 75=4 by kernel_rfl) (by omega) (show 0<Tryz.prog.bytesOf 75 from of_decide_eq_true (by kernel_rfl)) (fun m cs y hy hwy=>open_K hy hwy) h1 w1
  simp only [List.cons.injEq,and_true] at e0 e1
  subst e0
  subst e1
  exact ⟨A,k,c,A1,k1,c1,⟨l,l1⟩,rfl,⟨s0,s1,r0,r1,n0,n1⟩⟩
end
theorem PgAr.below {w w':World} {A:Option Addr} {m c:Nat} {B:Option Addr} {mb cb:Nat} {q:Pg} (h:PgAr w A m c B mb cb q) (k:Below w.heap.size w w'):PgAr w' A m c B mb cb q :=
 ⟨h.f.keeps u2l (u0z k fun _ hb=>hb) (fun _ hb=>Nat.lt_of_lt_of_le hb k.size),h.k.keeps u2x (u0z k fun _ hb=>hb) (fun _ hb=>Nat.lt_of_lt_of_le hb k.size),h.gf,h.gk,h.lf,h.lk⟩
theorem PgAr.in_ {w:World} {A:Option Addr} {m c:Nat} {B:Option Addr} {mb cb:Nat} {q:Pg} (h:PgAr w A m c B mb cb q) (k:q.fns.length+q.krs.length≤4001):PgIn w A m c B mb cb q:=⟨h.f,h.k,h.gf,h.gk,k⟩
theorem text_ar (q:Pg) (w:World) (A:Option Addr) (m c:Nat) (B:Option Addr) (mb cb:Nat) (hG:Gl w) (hp:PgAr w A m c B mb cb q) (hsm:fitP q=true→q.fns.length+q.krs.length≤4001) :
  Calls Tryz.prog 22 #[.agg #[.slice A m c,.slice B mb cb]] w fun e w'=>e=.returned (.tuple #[.string (bs (u5j q).1),.int .i64 (u5j q).2])∧Below w.heap.size w w':=by
 have hM:∀ w1,Below w.heap.size w w1→Calls Tryz.prog 53 #[.agg #[.slice A m c,.slice B mb cb]] w1 fun e w'=>Below w1.heap.size w1 w'∧∃ p2 d2:Int,e=.returned (.tuple #[.agg #[.int .i64 p2,.int .i64 d2],.bool (fitP q)])∧(fitP q=true→p2=partsP q∧d2=depthP q) :=
  fun w1 h1=>u7a q w1 A m c B mb cb (hG.bel h1).z (hG.bel h1).tabs (hp.below h1).f (hp.below h1).k hp.gf hp.gk hp.lf hp.lk
 have HM:=hid hM
 clear hM
 cases hb:fitP q
 ·have hv:u5j q=([],1):=by unfold u5j u2s; rw [hb]; rfl
  rw [hv]
  have HB:=hid hb
  clear hv hb hp hsm
  go_enter Tryz.func22,Tryz.ntmps22
  go_wp2_with fail
  refine (HM.out _ (u1e _ _)).mono ?_
  rintro e w1 ⟨hb1,p2,d2,rfl,-⟩
  rw [HB.out]
  have HB1:=hid (seq (u1e _ _) hb1)
  clear hb1
  go_wp2
  go_ret2
  exact ⟨rfl,by have:=HB1.out; exact seq (seq this (u1e _ _)) tBEL⟩
 ·have hr:=fit_room hb (hsm hb)
  have hW:∀ w1,Below w.heap.size w w1→Calls Tryz.prog 54 #[.agg #[.slice A m c,.slice B mb cb]] w1 fun e w'=>e=.returned (.string (bs (writ q)))∧Below w1.heap.size w1 w' :=
   fun w1 h1=>programText_w fmtU itoS q (fitP_ok hb) w1 (hG.bel h1).glob (hG.bel h1).pow (hG.bel h1).z A m c B mb cb (hp.below h1).f (hp.below h1).k hr.1 hr.2
  have HW:=hid hW
  have HB:=hid hb
  have hlt:decide ((4000:Int)<((bs (writ q)).size:Nat)) = !decide ((writ q).length≤4000):=by rw [u4t]; by_cases h:(writ q).length≤4000 <;> simp [h] <;> omega
  have hv:u5j q=if (writ q).length≤4000 then (writ q,0) else ([],1):=by unfold u5j u2s; rw [hb]; simp
  rw [hv]
  clear hv hb hp hW hr hsm
  by_cases h4:(writ q).length≤4000
  ·rw [if_pos h4]
   simp only [h4,decide_true,Bool.not_true] at hlt
   clear h4
   go_enter Tryz.func22,Tryz.ntmps22
   go_wp2_with fail
   refine (HM.out _ (u1e _ _)).mono ?_
   rintro e w1 ⟨hb1,p2,d2,rfl,-⟩
   rw [HB.out]
   obtain ⟨_,_,_,k0⟩:=u0a (q:=w.heap.size) (u0f hb1 (some 1)) tLOC (by have:=hG.z; omega)
   have HB1:=hid (seq (u1e _ _) hb1)
   clear hb1
   go_wp2_with fail
   refine (HW.out _ (seq HB1.out ((u1e _ _).trans tBEL))).mono ?_
   rintro e w2 ⟨rfl,hb2⟩
   have HB2:=hid (seq (seq HB1.out (u1e _ (.cells #[.int .i64 p2,.int .i64 d2] 96))) hb2)
   clear hb2
   go_wp2
   go_ret2
   exact ⟨rfl,HB2.out⟩
  ·rw [if_neg h4]
   simp only [h4,decide_false,Bool.not_false] at hlt
   clear h4
   go_enter Tryz.func22,Tryz.ntmps22
   go_wp2_with fail
   refine (HM.out _ (u1e _ _)).mono ?_
   rintro e w1 ⟨hb1,p2,d2,rfl,-⟩
   rw [HB.out]
   obtain ⟨_,_,_,k0⟩:=u0a (q:=w.heap.size) (u0f hb1 (some 1)) tLOC (by have:=hG.z; omega)
   have HB1:=hid (seq (u1e _ _) hb1)
   clear hb1
   go_wp2_with fail
   refine (HW.out _ (seq HB1.out ((u1e _ _).trans tBEL))).mono ?_
   rintro e w2 ⟨rfl,hb2⟩
   have HB2:=hid (seq (seq HB1.out (u1e _ (.cells #[.int .i64 p2,.int .i64 d2] 96))) hb2)
   clear hb2
   go_wp2
   go_ret2
   exact ⟨rfl,HB2.out⟩
theorem valid_ar (q:Pg) (w:World) (A:Option Addr) (m c:Nat) (B:Option Addr) (mb cb:Nat) (hG:Gl w) (hp:PgAr w A m c B mb cb q) (hsm:fitP q=true→q.fns.length+q.krs.length≤4001) :
  Calls Tryz.prog 26 #[.agg #[.slice A m c,.slice B mb cb]] w fun e w'=>e=.returned (.bool (u2s q))∧Below w.heap.size w w':=by
 have hT:=text_ar q _ A m c B mb cb (hG.alloc (.cells #[.slice A m c,.slice B mb cb] 26)) (hp.below (u1e _ _)) hsm
 have hv:(u5j q).2=if u2s q then 0 else 1:=by unfold u5j; split <;> rfl
 obtain ⟨x,hx⟩:∃ x,bs (u5j q).1=x:=⟨_,rfl⟩
 rw [hv,hx] at hT
 clear hv hx
 cases hb:u2s q
 ·rw [hb] at hT
  simp only [Bool.false_eq_true,if_false] at hT
  have HT:=hid hT
  clear hT hb hp hsm
  go_enter Tryz.func26,Tryz.ntmps26
  go_wp2_with fail
  refine HT.out.mono ?_
  rintro e w1 ⟨rfl,hb1⟩
  have HB1:=hid (seq (u1e _ _) hb1)
  clear hb1
  go_wp2
  go_ret
  exact ⟨rfl,HB1.out⟩
 ·rw [hb] at hT
  simp only [if_true] at hT
  have HT:=hid hT
  clear hT hb hp hsm
  go_enter Tryz.func26,Tryz.ntmps26
  go_wp2_with fail
  refine HT.out.mono ?_
  rintro e w1 ⟨rfl,hb1⟩
  have HB1:=hid (seq (u1e _ _) hb1)
  clear hb1
  go_wp2
  go_ret
  exact ⟨rfl,HB1.out⟩
end Go.Proofs.YtbkhnilbgocpnaaGreatDoor.SynC
