import Derived.Maps.AppendAt
import Derived.Deep.AppendLies
import Derived.Deep.RegionHeld
import Derived.Test.YtbkhnilbgocpnaaGreatDoorK8
import Derived.Test.YtbkhnilbgocpnaaGreatDoorK24
set_option linter.unusedVariables false
set_option linter.unusedSimpArgs false
set_option maxRecDepth 100000
set_option maxHeartbeats 2000000
namespace Go.Proofs.YtbkhnilbgocpnaaGreatDoor.SynC
open Go.Proofs.YtbkhnilbgocpnaaGreatDoor.LexC
open Go Go.ChangeShapes Go.WideShapes Go.ChangeAt Go.RowKit Go.Deep
section
variable {α:Type} {rd:Rd α} {T sz:Nat}
def Oc (rd:Rd α) (T sz H:Nat) (W0 W:World) (v:Value) (L:List α):Prop :=
 ∃ rows:List (List Value),rows.length=L.length∧(∀ (j:Nat) r a,rows[j]? = some r→L[j]? = some a→r.length=sz∧rd (fun g=>g<H) W0 r a)∧W.ownsRow H T sz v L.length rows.flatten
theorem Oc.kept {H:Nat} {W0 W W':World} {v:Value} {L:List α} {row:Option Nat} (h:Oc rd T sz H W0 W v L) (hg:W.grownBy W' row) (hv:v.ownBlock≠row):Oc rd T sz H W0 W' v L:=by
 obtain ⟨rows,h1,h2,h3⟩:=h
 exact ⟨rows,h1,h2,h3.kept hg (.inr hv)⟩
theorem Oc.lt {H:Nat} {W0 W:World} {v:Value} {L:List α} (h:Oc rd T sz H W0 W v L):∀ g,v.ownBlock=some g→H≤g∧g<W.heap.size:=by
 obtain ⟨rows,_,_,h3⟩:=h
 exact World.ownsRow.lt h3
theorem Oc.made {H:Nat} {W0 W:World} (hH:H≤W.heap.size):Oc rd T sz H W0 (W.alloc (.cells #[] T)) (.slice (some ⟨W.heap.size,0,none⟩) 0 0) [] :=
 ⟨[],rfl,fun j r a h=>by simp at h,World.ownsRow_made W #[] 0 hH (by unfold maxLen; omega) (by simp)⟩
theorem Oc.slR (ok:rd.Ok) {H:Nat} {W0 W:World} {v:Value} {L:List α} (h:Oc rd T sz H W0 W v L) (hb:Below H W0 W):SlR rd sz (fun g=>g<W.heap.size) W v L:=by
 obtain ⟨rows,h1,h2,h3⟩:=h
 have h3':=h3
 rcases h3.2 with ⟨hv,hn⟩ | ⟨g,cap,cur,hv,hbg,hgg,_⟩
 ·exact .inl ⟨hv,List.eq_nil_of_length_eq_zero hn⟩
 ·refine .inr ⟨⟨g,0,none⟩,cap,hv,fun _=>(Array.getElem?_eq_some_iff.1 hgg).1,?_⟩
  refine rg_of (P:=fun g=>g<W.heap.size) ok (fun b hb=>hb) L rows _ h1 (fun j r a hr ha=>⟨(h2 j r a hr ha).1,ok _ _ W0 W r a (u0z hb fun _ h=>h) (fun g hg=>?_) (h2 j r a hr ha).2⟩) (World.ownsRow.cells h3' (by rw [hv]; rfl))
  have:=(Array.getElem?_eq_some_iff.1 hgg).1
  omega
theorem rg_rows (hsz:∀ P w cs a,rd P w cs a→cs.length=sz) {P:Nat→Prop} {w:World}:∀ (L:List α) (x:Addr),RG rd sz P w x L →
  ∃ rows:List (List Value),rows.length=L.length∧(∀ (j:Nat) r a,rows[j]? = some r→L[j]? = some a→r.length=sz∧rd P w r a)∧(∀ j u,rows.flatten[j]? = some u→w.cell? (x.add j)=some u)
 | [],x,_=>⟨[],rfl,fun j r a h=>by simp at h,fun j u h=>by simp at h⟩
 | a :: L,x,⟨⟨cs,hat,hrd⟩,hr⟩=>by
  obtain ⟨rows,h1,h2,h3⟩:=rg_rows hsz L _ hr
  have hl:=hsz _ _ _ _ hrd
  refine ⟨cs :: rows,by simp [h1],fun j r b hj hb=>?_,fun j u hu=>?_⟩
  ·cases j with
   | zero=>simp at hj hb; subst hj; subst hb; exact ⟨hl,hrd⟩
   | succ j=>exact h2 j r b (by simpa using hj) (by simpa using hb)
  ·rw [List.flatten_cons] at hu
   by_cases hj:j<cs.length
   ·rw [List.getElem?_append_left hj] at hu
    exact hat j u hu
   ·rw [List.getElem?_append_right (by omega)] at hu
    have:=h3 _ u hu
    rw [add_add,hl] at this
    rw [show sz+(j - sz)=j by omega] at this
    exact this
theorem rows_flat {rows:List (List Value)} {sz:Nat} (h:∀ r∈rows,r.length=sz):rows.flatten.length=rows.length * sz:=by
 induction rows with
 | nil=>simp
 | cons r l ih =>
  rw [List.flatten_cons,List.length_append,ih (fun r' hr=>h r' (by simp [hr])),h r (by simp),List.length_cons,Nat.succ_mul,Nat.add_comm]
theorem run_append_none (P:Program) (w:World) (t ty e:TypeId) (i:TypeInfo) (ht:P.underlying t=some (.slice e)) (hi:P.info? e=some i) (g:Nat) (n c:Nat) (hn:n≤c) :
  (Builtin.append_ #[t,t] ty #[.slice (some ⟨g,0,none⟩) n c,.slice none 0 0]).run P w=.ok (.slice (some ⟨g,0,none⟩) n c) w:=by
 simp [Builtin.append_,run_underlying ht,sizeOf,typeInfo,hi,Builtin.lenOf,Builtin.firstCells,storeCells,hn]
theorem u1y (ok:rd.Ok) (hsz:∀ P w cs a,rd P w cs a→cs.length=sz) (hone:∀ P w cs a,rd P w cs a→∀ u∈cs,u.oneCell'=true) {o:Oper} {a:Act} {w:World} {K:Act→World→Prop} {Q:Exit→Act→World→Prop} (s x:Operand) (t:TypeId)
  (ho:o.op=.call { callee:=.builtin .append,args:=#[s,x],argTypes:=#[t,t] }) (z:Value) (bytes:Nat)
  (info:(Tryz.prog.info? T).map (fun i=>(i.zero,i.size,i.bytes))=some (some z,sz,bytes)) (ht:Tryz.prog.underlying t=some (.slice T)) (hzs:z.cells.size=sz) (hs0:0<sz) (hby:bytes≤1000)
  (H:Nat) (W0:World) (hH:H=W0.heap.size) (L M:List α) (g0 c0:Nat) (hs:a.eval s=.slice (some ⟨g0,0,none⟩) L.length c0) (hown:Oc rd T sz H W0 w (.slice (some ⟨g0,0,none⟩) L.length c0) L)
  (A:Option Addr) (m c:Nat) (hx:a.eval x=.slice A m c) (hM:SlR rd sz (fun g=>g<H) W0 (.slice A m c) M) (hb:Below H W0 w) (hl:L.length≤1000) (hm:M.length≤1000)
  (hK:∀ g' cap w',Oc rd T sz H W0 w' (.slice (some ⟨g',0,none⟩) (L++M).length cap) (L++M)→w.grownBy w' (some g0)→(g'=g0∨g'=w.heap.size)→g' < w'.heap.size→Below H W0 w'→K (a.put o.dst (.slice (some ⟨g',0,none⟩) (L++M).length cap)) w') :
  o.wp Tryz.prog a w K Q:=by
 obtain ⟨i,hi,hz,hs1,hbt⟩:=info_parts info
 have hHw:H≤w.heap.size:=by have:=hb.size; omega
 have hg0:=hown.lt g0 rfl
 have hbel:∀ {w':World},w.grownBy w' (some g0)→Below H W0 w':=fun {w'} hg=>by
  exact ⟨hg.os.trans hb.os,hg.tape.trans hb.tape,hg.output.trans hb.output,Nat.le_trans hb.size hg.size,fun k hk=>(hg.block k (by omega) (by simp; omega)).trans (hb.block k hk)⟩
 rcases hM with ⟨h1,rfl⟩ | ⟨y,cy,h1,hP,hr⟩
 ·cases h1
  obtain ⟨rows,r1,r2,r3⟩:=hown
  have hnc:L.length≤c0:=by
   rcases r3.2 with ⟨h,_⟩ | ⟨g,cap,cur,hv,_,_,h,_⟩
   ·cases h
   ·cases hv; exact h
  have hr:=run_append_none Tryz.prog w t o.type T i ht hi g0 L.length c0 hnc
  unfold Oper.wp execOp
  simp only [ho,resolve,invoke,builtin,Sem.run_bind,Sem.run_pure,Result.andThen_ok,List.map_toArray,List.map_cons,List.map_nil,hs,hx,hr]
  have:=hK g0 c0 w (by rw [List.append_nil]; exact ⟨rows,r1,r2,r3⟩) ⟨rfl,rfl,rfl,Nat.le_refl _,fun _ _ _=>rfl⟩ (.inl rfl) hg0.2 hb
  rw [List.append_nil] at this
  exact this
 ·cases h1
  obtain ⟨news,n1,n2,n3⟩:=rg_rows hsz M y hr
  have hnr:∀ r∈news,r.length=sz:=fun r hr=>by
   obtain ⟨j,hj⟩:=List.mem_iff_getElem?.1 hr
   obtain ⟨hj2,_⟩:=List.getElem?_eq_some_iff.1 hj
   exact (n2 j r _ hj (List.getElem?_eq_getElem (by omega))).1
  obtain ⟨rows,r1,r2,r3⟩:=hown
  obtain ⟨v',w',hrun,k2,k3,k4,k5⟩:=run_append_own_at (P:=Tryz.prog) w H t o.type T i z sz bytes ht hi hz hs1 hbt hzs hs0 _ L.length rows.flatten r3 y M.length c news.flatten (by rw [rows_flat hnr,n1])
   (fun j u hu=>by
    have h0:=n3 j u hu
    have hne:M≠[]:=fun h=>by subst h; simp at n1; subst n1; simp at hu
    have hlt:=hP hne
    rw [← h0]
    exact World.cell?_of_block (by rw [u6t]; exact hb.block _ hlt))
   (fun u hu=>by
    obtain ⟨r,hr,hu⟩:=List.mem_flatten.1 hu
    obtain ⟨j,hj⟩:=List.mem_iff_getElem?.1 hr
    obtain ⟨hj2,_⟩:=List.getElem?_eq_some_iff.1 hj
    exact hone _ _ _ _ (n2 j r _ hj (List.getElem?_eq_getElem (by omega))).2 u hu) (by unfold maxLen; omega) (by
   calc (L.length+M.length) * bytes≤2000 * 1000:=Nat.mul_le_mul (by omega) hby
    _≤140737488355328:=by omega) hHw
  rw [← List.length_append] at k2
  have hform:∃ g' cap,v'=.slice (some ⟨g',0,none⟩) (L++M).length cap:=by
   rcases k2.2 with ⟨h,_⟩ | ⟨g,cap,cur,hv,_⟩
   ·exact absurd (k4.1 h).1 (by simp)
   ·exact ⟨g,cap,hv⟩
  obtain ⟨g',cap,rfl⟩:=hform
  unfold Oper.wp execOp
  simp only [ho,resolve,invoke,builtin,Sem.run_bind,Sem.run_pure,Result.andThen_ok,List.map_toArray,List.map_cons,List.map_nil,hs,hx,hrun]
  refine hK g' cap w' ⟨rows++news,by simp [r1,n1],fun j r b hj hb'=>?_,by rw [List.flatten_append]; exact k2⟩ (by simpa [Value.ownBlock] using k3) (by simpa [Value.ownBlock] using k5) (World.ownsRow.lt k2 g' rfl).2 (hbel (by simpa [Value.ownBlock] using k3))
  by_cases hjl:j<L.length
  ·rw [List.getElem?_append_left (by omega)] at hj hb'
   exact r2 j r b hj hb'
  ·rw [List.getElem?_append_right (by omega)] at hj hb'
   rw [r1] at hj
   exact n2 _ r b hj hb'
end
def mo0:Oper:={ dst:=some 30,op:=Op.buildSlice 23 0 #[],type:=23,pos := "outright.go:186",after:=#[],guard:=none }
def mo1:Oper:={ dst:=some 31,op:=Op.fieldAddr 26 (Operand.tmp 2) 0,type:=0,pos := "outright.go:186",after:=#[],guard:=none }
def mo2:Oper:={ dst:=some 32,op:=Op.load 23 (Operand.tmp 31),type:=23,pos := "outright.go:186",after:=#[{ on:=1,ground:=Ground.data }],guard:=none }
def mo3:Oper:={ dst:=some 33,op:=Op.call { callee:=Callee.builtin Builtin.append,args:=#[Operand.tmp 30,Operand.tmp 32],argTypes:=#[23,23] },type:=23,pos := "outright.go:186",after:=#[{ on:=0,ground:=Ground.data },{ on:=2,ground:=Ground.data }],guard:=none }
def mo4:Oper:={ dst:=some 34,op:=Op.fieldAddr 26 (Operand.tmp 3) 0,type:=0,pos := "outright.go:186",after:=#[],guard:=none }
def mo5:Oper:={ dst:=some 35,op:=Op.load 23 (Operand.tmp 34),type:=23,pos := "outright.go:186",after:=#[{ on:=4,ground:=Ground.data }],guard:=none }
def mo6:Oper:={ dst:=some 36,op:=Op.call { callee:=Callee.builtin Builtin.append,args:=#[Operand.tmp 33,Operand.tmp 35],argTypes:=#[23,23] },type:=23,pos := "outright.go:186",after:=#[{ on:=3,ground:=Ground.data },{ on:=5,ground:=Ground.data },{ on:=3,ground:=Ground.chain }],guard:=none }
def mo7:Oper:={ dst:=some 37,op:=Op.buildSlice 24 0 #[],type:=24,pos := "outright.go:186",after:=#[],guard:=none }
def mo8:Oper:={ dst:=some 38,op:=Op.fieldAddr 26 (Operand.tmp 2) 1,type:=0,pos := "outright.go:186",after:=#[],guard:=none }
def mo9:Oper:={ dst:=some 39,op:=Op.load 24 (Operand.tmp 38),type:=24,pos := "outright.go:186",after:=#[{ on:=8,ground:=Ground.data }],guard:=none }
def mo10:Oper:={ dst:=some 40,op:=Op.call { callee:=Callee.builtin Builtin.append,args:=#[Operand.tmp 37,Operand.tmp 39],argTypes:=#[24,24] },type:=24,pos := "outright.go:186",after:=#[{ on:=7,ground:=Ground.data },{ on:=9,ground:=Ground.data },{ on:=6,ground:=Ground.chain }],guard:=none }
def mo11:Oper:={ dst:=some 41,op:=Op.fieldAddr 26 (Operand.tmp 3) 1,type:=0,pos := "outright.go:186",after:=#[],guard:=none }
def mo12:Oper:={ dst:=some 42,op:=Op.load 24 (Operand.tmp 41),type:=24,pos := "outright.go:186",after:=#[{ on:=11,ground:=Ground.data }],guard:=none }
def mo13:Oper:={ dst:=some 43,op:=Op.call { callee:=Callee.builtin Builtin.append,args:=#[Operand.tmp 40,Operand.tmp 42],argTypes:=#[24,24] },type:=24,pos := "outright.go:186",after:=#[{ on:=10,ground:=Ground.data },{ on:=12,ground:=Ground.data },{ on:=10,ground:=Ground.chain }],guard:=none }
def mo14:Oper:={ dst:=some 44,op:=Op.build 26 #[(0,Operand.tmp 36),(1,Operand.tmp 43)],type:=26,pos := "outright.go:186",after:=#[{ on:=6,ground:=Ground.data },{ on:=13,ground:=Ground.data }],guard:=none }
def mo15:Oper:={ dst:=some 9,op:=Op.alloc 26,type:=0,pos := "outright.go:186",after:=#[],guard:=none }
def mo16:Oper:={ dst:=none,op:=Op.store 26 (Operand.tmp 9) (Operand.tmp 44),type:=0,pos := "outright.go:186",after:=#[{ on:=15,ground:=Ground.data },{ on:=14,ground:=Ground.data },{ on:=13,ground:=Ground.chain },{ on:=0,ground:=Ground.phase },{ on:=1,ground:=Ground.phase },{ on:=2,ground:=Ground.phase },{ on:=3,ground:=Ground.phase },{ on:=4,ground:=Ground.phase },{ on:=5,ground:=Ground.phase },{ on:=6,ground:=Ground.phase },{ on:=7,ground:=Ground.phase },{ on:=8,ground:=Ground.phase },{ on:=9,ground:=Ground.phase },{ on:=10,ground:=Ground.phase },{ on:=11,ground:=Ground.phase },{ on:=12,ground:=Ground.phase },{ on:=13,ground:=Ground.phase },{ on:=14,ground:=Ground.phase },{ on:=15,ground:=Ground.phase }],guard:=none }
def u1a:Array Oper:=#[mo0,mo1,mo2,mo3,mo4,mo5,mo6,mo7,mo8,mo9,mo10,mo11,mo12,mo13,mo14,mo15,mo16]
theorem u1r (a:Act) (i:Nat) (v:Value) (h:i<a.tmps.size):(a.put (some i) v).eval (.tmp i)=v:=by
 simp [Act.put,Act.eval,h]
theorem u0m (a:Act) (i k:Nat) (v:Value) (h:i≠k):(a.put (some i) v).eval (.tmp k)=a.eval (.tmp k):=by
 simp [Act.put,Act.eval,Array.getD_eq_getD_getElem?,Array.getElem?_setIfInBounds,h]
theorem u0d (a:Act) (d:Option Tmp) (v:Value):(a.put d v).tmps.size=a.tmps.size:=by
 cases d <;> simp [Act.put]
theorem u0b (a:Act) (i j:Nat) (v u:Value) (h:j<i):(a.put (some i) v).put (some j) u=(a.put (some j) u).put (some i) v:=by
 simp only [Act.put]
 rw [Array.setIfInBounds_comm _ _ (by omega)]
section
variable {P:Program} {w:World} {a:Act} {o:Oper}
theorem run_field (x:Operand) (k b:Nat) (hk:k<2) (ho:o.op=.fieldAddr 26 x k) (hx:a.eval x=.pointer (some ⟨b,0,none⟩)):(execOp a.eval o).run Tryz.prog w=.ok (.value (.pointer (some ⟨b,k,none⟩))) w:=by
 obtain ⟨d,op,ty,ps,af,gd⟩:=o
 cases ho
 generalize a.eval=ev at *
 match k,hk with
 | 0,_=>go_simp
 | 1,_=>go_simp
theorem run_load (t:TypeId) (ht:t=23∨t=24) (x:Operand) (b k:Nat) (v:Value) (ho:o.op=.load t x) (hx:a.eval x=.pointer (some ⟨b,k,none⟩)) (hc:w.cell? ⟨b,k,none⟩=some v):(execOp a.eval o).run Tryz.prog w=.ok (.value v) w:=by
 obtain ⟨d,op,ty,ps,af,gd⟩:=o
 cases ho
 generalize a.eval=ev at *
 rcases ht with rfl | rfl
 ·go_simp
 ·go_simp
theorem run_build (x y:Operand) (A:Option Addr) (m c:Nat) (B:Option Addr) (mb cb:Nat) (ho:o.op=.build 26 #[(0,x),(1,y)]) (hx:a.eval x=.slice A m c) (hy:a.eval y=.slice B mb cb):(execOp a.eval o).run Tryz.prog w=.ok (.value (.agg #[.slice A m c,.slice B mb cb])) w:=by
 obtain ⟨d,op,ty,ps,af,gd⟩:=o
 cases ho
 generalize a.eval=ev at *
 go_simp
variable {K:Act→World→Prop} {Q:Exit→Act→World→Prop}
set_option maxRecDepth 100000 in
theorem u4o (t T:TypeId) (ho:o.op=.buildSlice t 0 #[]) (hT:t=23∧T=71∨t=24∧T=75) (h:K (a.put o.dst (.slice (some ⟨w.heap.size,0,none⟩) 0 0)) (w.alloc (.cells #[] T))):o.wp Tryz.prog a w K Q:=by
 obtain ⟨d,op,ty,ps,af,gd⟩:=o
 cases ho
 unfold Oper.wp
 generalize a.eval=ev
 rcases hT with ⟨rfl,rfl⟩ | ⟨rfl,rfl⟩
 ·have:(execOp ev { dst:=d,op:=Op.buildSlice 23 0 #[],type:=ty,pos:=ps,after:=af,guard:=gd }).run Tryz.prog w=.ok (.value (.slice (some ⟨w.heap.size,0,none⟩) 0 0)) (w.alloc (.cells #[] 71)):=by clear h; go_simp
  rw [this]; exact h
 ·have:(execOp ev { dst:=d,op:=Op.buildSlice 24 0 #[],type:=ty,pos:=ps,after:=af,guard:=gd }).run Tryz.prog w=.ok (.value (.slice (some ⟨w.heap.size,0,none⟩) 0 0)) (w.alloc (.cells #[] 75)):=by clear h; go_simp
  rw [this]; exact h
set_option maxRecDepth 100000 in
theorem u5p (ho:o.op=.alloc 26) (h:K (a.put o.dst (.pointer (some ⟨w.heap.size,0,none⟩))) (w.alloc (.cells #[.slice none 0 0,.slice none 0 0] 26))):o.wp Tryz.prog a w K Q:=by
 obtain ⟨d,op,ty,ps,af,gd⟩:=o
 cases ho
 unfold Oper.wp
 generalize a.eval=ev
 have:(execOp ev { dst:=d,op:=Op.alloc 26,type:=ty,pos:=ps,after:=af,guard:=gd }).run Tryz.prog w=.ok (.value (.pointer (some ⟨w.heap.size,0,none⟩))) (w.alloc (.cells #[.slice none 0 0,.slice none 0 0] 26)):=by clear h; go_simp
 rw [this]; exact h
set_option maxRecDepth 100000 in
theorem op_store (x y:Operand) (g:Nat) (A:Option Addr) (m c:Nat) (B:Option Addr) (mb cb:Nat) (ho:o.op=.store 26 x y) (hd:o.dst=none) (hx:a.eval x=.pointer (some ⟨g,0,none⟩)) (hy:a.eval y=.agg #[.slice A m c,.slice B mb cb])
  (hg:w.heap[g]? = some (.cells #[.slice none 0 0,.slice none 0 0] 26 (0,0)))
  (h:K a ((w.setCell ⟨g,0,none⟩ (.slice A m c)).setCell ⟨g,1,none⟩ (.slice B mb cb))):o.wp Tryz.prog a w K Q:=by
 obtain ⟨d,op,ty,ps,af,gd⟩:=o
 cases ho
 cases hd
 have c0:w.cell? ⟨g,0,none⟩=some (.slice none 0 0):=cell_of_row _ _ 0 _ _ _ hg
 have c1:w.cell? ⟨g,1,none⟩=some (.slice none 0 0):=cell_of_row _ _ 1 _ _ _ hg
 have f0:w.frozen? ⟨g,0,none⟩=false:=by simp [World.frozen?,hg]
 have f1:w.frozen? ⟨g,1,none⟩=false:=by simp [World.frozen?,hg]
 unfold Oper.wp
 generalize a.eval=ev at *
 have:(execOp ev { dst:=none,op:=Op.store 26 x y,type:=ty,pos:=ps,after:=af,guard:=gd }).run Tryz.prog w=.ok .skip ((w.setCell ⟨g,0,none⟩ (.slice A m c)).setCell ⟨g,1,none⟩ (.slice B mb cb)):=by clear h hg; go_simp
 rw [this]; exact h
end
structure Rg (H:Nat) (W0 W:World) (c1:Option (Nat × Nat × List Fn)) (c2:Option (Nat × Nat × List Kr)) (c3:Option Nat):Prop where
 hH:H=W0.heap.size
 bel:Below H W0 W
 f:∀ g c L,c1=some (g,c,L)→Oc rdF 71 3 H W0 W (.slice (some ⟨g,0,none⟩) L.length c) L
 k:∀ g c L,c2=some (g,c,L)→Oc rdK 75 4 H W0 W (.slice (some ⟨g,0,none⟩) L.length c) L
 b:∀ g,c3=some g→H≤g∧W.heap[g]? = some (.cells #[.slice none 0 0,.slice none 0 0] 26 (0,0))
 d12:∀ g c L g' c' L',c1=some (g,c,L)→c2=some (g',c',L')→g≠g'
 d13:∀ g c L g',c1=some (g,c,L)→c3=some g'→g≠g'
 d23:∀ g c L g',c2=some (g,c,L)→c3=some g'→g≠g'
section
variable {H:Nat} {W0 W:World} {c1:Option (Nat × Nat × List Fn)} {c2:Option (Nat × Nat × List Kr)} {c3:Option Nat}
theorem own_alloc {α:Type} {rd:Rd α} {T sz g c:Nat} {L:List α} {o:Obj} (h:Oc rd T sz H W0 W (.slice (some ⟨g,0,none⟩) L.length c) L):Oc rd T sz H W0 (W.alloc o) (.slice (some ⟨g,0,none⟩) L.length c) L:=by
 have:=h.lt g rfl
 exact h.kept (row:=some (g+1)) (World.grownBy_alloc W o _) (by simp [Value.ownBlock])
theorem Rg.size (h:Rg H W0 W c1 c2 c3):H≤W.heap.size:=by have:=h.bel.size; have:=h.hH; omega
theorem Rg.f_lt (h:Rg H W0 W c1 c2 c3) {g c L} (e:c1=some (g,c,L)):H≤g∧g<W.heap.size:=(h.f g c L e).lt g rfl
theorem Rg.k_lt (h:Rg H W0 W c1 c2 c3) {g c L} (e:c2=some (g,c,L)):H≤g∧g<W.heap.size:=(h.k g c L e).lt g rfl
theorem Rg.b_lt (h:Rg H W0 W c1 c2 c3) {g} (e:c3=some g):H≤g∧g<W.heap.size:=⟨(h.b g e).1,(Array.getElem?_eq_some_iff.1 (h.b g e).2).1⟩
theorem Rg.alloc1 (h:Rg H W0 W none c2 c3):Rg H W0 (W.alloc (.cells #[] 71)) (some (W.heap.size,0,[])) c2 c3:=by
 have hs:=h.size
 refine ⟨h.hH,h.bel.alloc hs _,fun g c L e=>?_,fun g c L e=>own_alloc (h.k g c L e),fun g e=>⟨(h.b g e).1,u0e (h.b_lt e).2 (h.b g e).2⟩,fun g c L g' c' L' e e'=>?_,fun g c L g' e e'=>?_,h.d23⟩
 ·cases e; exact Oc.made hs
 ·cases e; have:=(h.k_lt e').2; omega
 ·cases e; have:=(h.b_lt e').2; omega
theorem Rg.alloc2 (h:Rg H W0 W c1 none c3):Rg H W0 (W.alloc (.cells #[] 75)) c1 (some (W.heap.size,0,[])) c3:=by
 have hs:=h.size
 refine ⟨h.hH,h.bel.alloc hs _,fun g c L e=>own_alloc (h.f g c L e),fun g c L e=>?_,fun g e=>⟨(h.b g e).1,u0e (h.b_lt e).2 (h.b g e).2⟩,fun g c L g' c' L' e e'=>?_,h.d13,fun g c L g' e e'=>?_⟩
 ·cases e; exact Oc.made hs
 ·cases e'; have:=(h.f_lt e).2; omega
 ·cases e; have:=(h.b_lt e').2; omega
theorem Rg.alloc3 (h:Rg H W0 W c1 c2 none):Rg H W0 (W.alloc (.cells #[.slice none 0 0,.slice none 0 0] 26)) c1 c2 (some W.heap.size):=by
 have hs:=h.size
 refine ⟨h.hH,h.bel.alloc hs _,fun g c L e=>own_alloc (h.f g c L e),fun g c L e=>own_alloc (h.k g c L e),fun g e=>?_,h.d12,fun g c L g' e e'=>?_,fun g c L g' e e'=>?_⟩
 ·cases e; exact ⟨hs,u1d _ _⟩
 ·cases e'; have:=(h.f_lt e).2; omega
 ·cases e'; have:=(h.k_lt e).2; omega
theorem Rg.grow1 {g0 c0:Nat} {L L':List Fn} (h:Rg H W0 W (some (g0,c0,L)) c2 c3) {g' cap:Nat} {W':World} (ho:Oc rdF 71 3 H W0 W' (.slice (some ⟨g',0,none⟩) L'.length cap) L') (hg:W.grownBy W' (some g0)) (hw:g'=g0∨g'=W.heap.size) (hb:Below H W0 W'):Rg H W0 W' (some (g',cap,L')) c2 c3:=by
 refine ⟨h.hH,hb,fun g c L e=>?_,fun g c L e=>(h.k g c L e).kept hg (by simp [Value.ownBlock]; exact fun e'=>h.d12 _ _ _ _ _ _ rfl e e'.symm),fun g e=>⟨(h.b g e).1,(hg.block g (h.b_lt e).2 (by simp; exact fun e'=>h.d13 _ _ _ _ rfl e e'.symm)).trans (h.b g e).2⟩,fun g c L g2 c' L' e e'=>?_,fun g c L g2 e e'=>?_,h.d23⟩
 ·cases e; exact ho
 ·cases e
  rcases hw with rfl | rfl
  ·exact h.d12 _ _ _ _ _ _ rfl e'
  ·have:=(h.k_lt e').2; omega
 ·cases e
  rcases hw with rfl | rfl
  ·exact h.d13 _ _ _ _ rfl e'
  ·have:=(h.b_lt e').2; omega
theorem Rg.grow2 {g0 c0:Nat} {L L':List Kr} (h:Rg H W0 W c1 (some (g0,c0,L)) c3) {g' cap:Nat} {W':World} (ho:Oc rdK 75 4 H W0 W' (.slice (some ⟨g',0,none⟩) L'.length cap) L') (hg:W.grownBy W' (some g0)) (hw:g'=g0∨g'=W.heap.size) (hb:Below H W0 W'):Rg H W0 W' c1 (some (g',cap,L')) c3:=by
 refine ⟨h.hH,hb,fun g c L e=>(h.f g c L e).kept hg (by simp [Value.ownBlock]; exact fun e'=>h.d12 _ _ _ _ _ _ e rfl e'),fun g c L e=>?_,fun g e=>⟨(h.b g e).1,(hg.block g (h.b_lt e).2 (by simp; exact fun e'=>h.d23 _ _ _ _ rfl e e'.symm)).trans (h.b g e).2⟩,fun g c L g2 c' L' e e'=>?_,h.d13,fun g c L g2 e e'=>?_⟩
 ·cases e; exact ho
 ·cases e'
  rcases hw with rfl | rfl
  ·exact h.d12 _ _ _ _ _ _ e rfl
  ·have:=(h.f_lt e).2; omega
 ·cases e
  rcases hw with rfl | rfl
  ·exact h.d23 _ _ _ _ rfl e'
  ·have:=(h.b_lt e').2; omega
end
end Go.Proofs.YtbkhnilbgocpnaaGreatDoor.SynC
