import Derived.WalkKit
import Derived.ProofKit
import Derived.Below
import Derived.OpenShut
import Derived.Deep.Slices
import Derived.Test.YtbkhnilbgocpnaaGreatDoorK1
set_option linter.unusedVariables false
set_option linter.unusedSimpArgs false
set_option maxRecDepth 100000
set_option maxHeartbeats 2000000
namespace Go.Proofs.YtbkhnilbgocpnaaGreatDoor.SynC
open Go.Proofs.YtbkhnilbgocpnaaGreatDoor.LexC
open Go Go.ChangeShapes Go.WideShapes Go.ChangeAt Go.RowKit Go.Deep
def exRow (kind op num:Int) (name:List UInt8) (K:Value):List Value:=[.int .i64 kind,.int .i64 op,.int .i32 num,.string (bs name),K]
def stRow (kind op:Int) (name:List UInt8) (E B C:Value):List Value:=[.int .i64 kind,.int .i64 op,.string (bs name),E,B,C]
def At (w:World) (x:Addr) (cs:List Value):Prop:=∀ j u,cs[j]? = some u→w.cell? (x.add j)=some u
mutual
def RE (w:World) (P:Nat→Prop) (cs:List Value):Ex→Prop
 | .mk kind op num name kids=>∃ K,cs=exRow kind op num name K∧((K=.slice none 0 0∧kids=[])∨∃ x c,K=.slice (some x) kids.length c∧(kids≠[]→P x.block)∧REs w P x kids)
def REs (w:World) (P:Nat→Prop) (x:Addr):List Ex→Prop
 | []=>True
 | e :: r=>(∃ cs,At w x cs∧RE w P cs e)∧REs w P (x.add 5) r
end
def SlE (w:World) (P:Nat→Prop) (K:Value) (l:List Ex):Prop:=(K=.slice none 0 0∧l=[])∨∃ x c,K=.slice (some x) l.length c∧(l≠[]→P x.block)∧REs w P x l
theorem RE_eq (w:World) (P:Nat→Prop) (cs:List Value) (kind op num:Int) (name:List UInt8) (kids:List Ex) :
  RE w P cs (.mk kind op num name kids) = ∃ K,cs=exRow kind op num name K∧SlE w P K kids:=by rw [RE]; rfl
mutual
def RS (w:World) (P:Nat→Prop) (cs:List Value):St→Prop
 | .mk kind op name exprs body els=>∃ E B C,cs=stRow kind op name E B C∧SlE w P E exprs ∧
   ((B=.slice none 0 0∧body=[])∨∃ x c,B=.slice (some x) body.length c∧(body≠[]→P x.block)∧RSs w P x body) ∧
   ((C=.slice none 0 0∧els=[])∨∃ x c,C=.slice (some x) els.length c∧(els≠[]→P x.block)∧RSs w P x els)
def RSs (w:World) (P:Nat→Prop) (x:Addr):List St→Prop
 | []=>True
 | s :: r=>(∃ cs,At w x cs∧RS w P cs s)∧RSs w P (x.add 6) r
end
def SlS (w:World) (P:Nat→Prop) (K:Value) (l:List St):Prop:=(K=.slice none 0 0∧l=[])∨∃ x c,K=.slice (some x) l.length c∧(l≠[]→P x.block)∧RSs w P x l
theorem RS_eq (w:World) (P:Nat→Prop) (cs:List Value) (kind op:Int) (name:List UInt8) (exprs:List Ex) (body els:List St) :
  RS w P cs (.mk kind op name exprs body els) = ∃ E B C,cs=stRow kind op name E B C∧SlE w P E exprs∧SlS w P B body∧SlS w P C els:=by rw [RS]; rfl
def u6u (P:Nat→Prop) (w w':World):Prop:=∀ (p:Addr) (u:Value),P p.block→w.cell? p=some u→w'.cell? p=some u
theorem u6t (x:Addr) (j:Nat):(x.add j).block=x.block:=by unfold Addr.add; split <;> rfl
theorem At.keeps {P:Nat→Prop} {w w':World} {x:Addr} {cs:List Value} (h:At w x cs) (k:u6u P w w') (hx:P x.block):At w' x cs:=fun j u hu=>k _ u (by rw [u6t]; exact hx) (h j u hu)
mutual
theorem RE.keeps {P Q:Nat→Prop} {w w':World} (k:u6u P w w') (hPQ:∀ b,P b→Q b):(e:Ex)→∀ cs,RE w P cs e→RE w' Q cs e
 | .mk kind op num name kids,cs,h=>by
  rw [RE] at h ⊢
  obtain ⟨K,hc,hK⟩:=h
  refine ⟨K,hc,?_⟩
  rcases hK with hK | ⟨x,c,hK,hx,hr⟩
  ·exact .inl hK
  ·exact .inr ⟨x,c,hK,fun hn=>hPQ _ (hx hn),REs.keeps k hPQ kids x hx hr⟩
theorem REs.keeps {P Q:Nat→Prop} {w w':World} (k:u6u P w w') (hPQ:∀ b,P b→Q b):(l:List Ex)→∀ x:Addr,(l≠[]→P x.block)→REs w P x l→REs w' Q x l
 | [],_,_,_=>by rw [REs]; trivial
 | e :: r,x,hx,h=>by
  rw [REs] at h ⊢
  obtain ⟨⟨cs,ha,he⟩,hr⟩:=h
  exact ⟨⟨cs,ha.keeps k (hx (by simp)),RE.keeps k hPQ e cs he⟩,REs.keeps k hPQ r _ (fun _=>by rw [u6t]; exact hx (by simp)) hr⟩
end
theorem SlE.keeps {P Q:Nat→Prop} {w w':World} (k:u6u P w w') (hPQ:∀ b,P b→Q b) {K:Value} {l:List Ex} (h:SlE w P K l):SlE w' Q K l:=by
 rcases h with h | ⟨x,c,hK,hx,hr⟩
 ·exact .inl h
 ·exact .inr ⟨x,c,hK,fun hn=>hPQ _ (hx hn),REs.keeps k hPQ l x hx hr⟩
mutual
theorem RS.keeps {P Q:Nat→Prop} {w w':World} (k:u6u P w w') (hPQ:∀ b,P b→Q b):(s:St)→∀ cs,RS w P cs s→RS w' Q cs s
 | .mk kind op name exprs body els,cs,h=>by
  rw [RS] at h ⊢
  obtain ⟨E,B,C,hc,hE,hB,hC⟩:=h
  refine ⟨E,B,C,hc,hE.keeps k hPQ,?_,?_⟩
  ·rcases hB with hB | ⟨x,c,hB,hx,hr⟩
   ·exact .inl hB
   ·exact .inr ⟨x,c,hB,fun hn=>hPQ _ (hx hn),RSs.keeps k hPQ body x hx hr⟩
  ·rcases hC with hC | ⟨x,c,hC,hx,hr⟩
   ·exact .inl hC
   ·exact .inr ⟨x,c,hC,fun hn=>hPQ _ (hx hn),RSs.keeps k hPQ els x hx hr⟩
theorem RSs.keeps {P Q:Nat→Prop} {w w':World} (k:u6u P w w') (hPQ:∀ b,P b→Q b):(l:List St)→∀ x:Addr,(l≠[]→P x.block)→RSs w P x l→RSs w' Q x l
 | [],_,_,_=>by rw [RSs]; trivial
 | s :: r,x,hx,h=>by
  rw [RSs] at h ⊢
  obtain ⟨⟨cs,ha,he⟩,hr⟩:=h
  exact ⟨⟨cs,ha.keeps k (hx (by simp)),RS.keeps k hPQ s cs he⟩,RSs.keeps k hPQ r _ (fun _=>by rw [u6t]; exact hx (by simp)) hr⟩
end
theorem SlS.keeps {P Q:Nat→Prop} {w w':World} (k:u6u P w w') (hPQ:∀ b,P b→Q b) {K:Value} {l:List St} (h:SlS w P K l):SlS w' Q K l:=by
 rcases h with h | ⟨x,c,hK,hx,hr⟩
 ·exact .inl h
 ·exact .inr ⟨x,c,hK,fun hn=>hPQ _ (hx hn),RSs.keeps k hPQ l x hx hr⟩
theorem u0z {P:Nat→Prop} {w w':World} {B:Nat} (h:Below B w w') (hP:∀ b,P b→b<B):u6u P w w':=fun _ _ hp hu=>(h.cell (hP _ hp)).trans hu
theorem add_zero' (x:Addr):x.add 0=x:=by unfold Addr.add; split <;> simp_all
theorem REs.get {w:World} {P:Nat→Prop}:∀ (l:List Ex) (x:Addr),REs w P x l→∀ i e,l[i]? = some e→∃ cs,At w (x.add (i * 5)) cs∧RE w P cs e
 | [],_,_,_,_,h=>by simp at h
 | a :: r,x,h,i,e,hi=>by
  rw [REs] at h
  cases i with
  | zero=>simp at hi; subst hi; obtain ⟨cs,h1,h2⟩:=h.1; exact ⟨cs,by rw [Nat.zero_mul,add_zero']; exact h1,h2⟩
  | succ i =>
   obtain ⟨cs,h1,h2⟩:=REs.get r _ h.2 i e (by simpa using hi)
   rw [add_add] at h1
   exact ⟨cs,by rw [show (i+1) * 5=5+i * 5 by omega]; exact h1,h2⟩
theorem RSs.get {w:World} {P:Nat→Prop}:∀ (l:List St) (x:Addr),RSs w P x l→∀ i s,l[i]? = some s→∃ cs,At w (x.add (i * 6)) cs∧RS w P cs s
 | [],_,_,_,_,h=>by simp at h
 | a :: r,x,h,i,e,hi=>by
  rw [RSs] at h
  cases i with
  | zero=>simp at hi; subst hi; obtain ⟨cs,h1,h2⟩:=h.1; exact ⟨cs,by rw [Nat.zero_mul,add_zero']; exact h1,h2⟩
  | succ i =>
   obtain ⟨cs,h1,h2⟩:=RSs.get r _ h.2 i e (by simpa using hi)
   rw [add_add] at h1
   exact ⟨cs,by rw [show (i+1) * 6=6+i * 6 by omega]; exact h1,h2⟩
theorem RE.len {w:World} {P:Nat→Prop} {cs:List Value} {e:Ex} (h:RE w P cs e):cs.length=5:=by
 cases e with
 | mk=>rw [RE_eq] at h; obtain ⟨K,rfl,_⟩:=h; rfl
theorem RS.len {w:World} {P:Nat→Prop} {cs:List Value} {s:St} (h:RS w P cs s):cs.length=6:=by
 cases s with
 | mk=>rw [RS_eq] at h; obtain ⟨E,B,C,rfl,_⟩:=h; rfl
end Go.Proofs.YtbkhnilbgocpnaaGreatDoor.SynC
