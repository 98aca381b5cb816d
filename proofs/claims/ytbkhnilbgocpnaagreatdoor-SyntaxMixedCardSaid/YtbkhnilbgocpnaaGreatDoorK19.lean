import Derived.OpenShut
import Derived.LaidMore
import Derived.Stop.Joined
import Derived.ChangeBears
set_option linter.unusedVariables false
set_option linter.unusedSimpArgs false
set_option maxRecDepth 100000
set_option maxHeartbeats 2000000
namespace Go.Proofs.YtbkhnilbgocpnaaGreatDoor.SynF
open Go.ChangeShapes Go.WideShapes Go.RowKit
mutual
def flat {H:Type}:DataW H→List Value
 | .lit (.int k n)=>[.int k n]
 | .lit (.bool b)=>[.bool b]
 | .lit (.string l)=>[.string ⟨l.toArray⟩]
 | .agg ps=>flats ps
 | _=>[]
def flats {H:Type}:List (DataW H)→List Value
 | []=>[]
 | d :: r=>flat d++flats r
end
def plainT (P:Program):Nat→TypeId→Bool
 | 0,_=>false
 | n+1,t =>
  match P.underlying t with
  | some .bool=>true
  | some (.int _)=>true
  | some .string=>true
  | some (.struct fs)=>fs.toList.all fun f=>plainT P n f.type
  | some (.array _ e)=>plainT P n e
  | _=>false
theorem u8c {H:Type}:∀ l:List (DataW H),flats l=l.flatMap flat
 | []=>by rw [flats]; rfl
 | d :: r=>by rw [flats,u8c r]; rfl
theorem pieces {α:Type}:∀ (ns:List Nat) (cs:List α) (g:Nat→List α),cs.length=ns.sum→(∀ i n,ns[i]? = some n→(cs.drop (ns.take i).sum).take n=g i)→cs=(List.range ns.length).flatMap g
 | [],cs,g,h,_=>by simp at h; simp [h]
 | n :: ns,cs,g,h,hg=>by
  have h0:=hg 0 n rfl
  simp only [List.take_zero,List.sum_nil,List.drop_zero] at h0
  have ih:=pieces ns (cs.drop n) (fun i=>g (i+1)) (by rw [List.length_drop,h,List.sum_cons]; omega) fun i m hm=>by
   have:=hg (i+1) m (by simpa using hm)
   rw [List.take_succ_cons,List.sum_cons,← List.drop_drop] at this
   exact this
  rw [List.length_cons,List.range_succ_eq_map,List.flatMap_cons,← h0,List.flatMap_map]
  conv=>lhs; rw [← List.take_append_drop n cs]
  rw [ih]
def atF {α β:Type} (f:α→List β) (l:List α) (i:Nat):List β:=match l[i]? with
 | some a=>f a
 | none=>[]
theorem atF_some {α β:Type} {f:α→List β} {l:List α} {i:Nat} (h:i<l.length):atF f l i=f l[i]:=by
 unfold atF; rw [List.getElem?_eq_getElem h]
theorem range_flat {α β:Type} (l:List α) (f:α→List β):(List.range l.length).flatMap (atF f l)=l.flatMap f:=by
 induction l with
 | nil=>rfl
 | cons a l ih =>
  rw [List.length_cons,List.range_succ_eq_map,List.flatMap_cons,List.flatMap_map,List.flatMap_cons]
  exact congrArg (f a++·) ih
theorem drop_sum_const (n c:Nat):∀ i,i≤n→((List.replicate n c).take i).sum=i * c:=by
 intro i hi
 rw [List.take_replicate,List.sum_replicate_nat,Nat.min_eq_left hi]
variable {H:Type} {enc:TypeId × Value→H} {P:Program} {w:World} {base:Nat} {spare:Nat→Bool} {held:Bool}
theorem trod_flat (hl:laidOutB P=true):∀ (k n:Nat) (t:TypeId) (cs:List Value) (x:DataW H × List MemPlace),plainT P k t=true→t<P.types.size→DataW.trod enc P w base spare held n t cs=some x→cs=flat x.1
 | 0,n,t,cs,x,hp,_,_=>by simp [plainT] at hp
 | k+1,n,t,cs,x,hp,ht,h=>by
  unfold plainT at hp
  split at hp
  ·rename_i hu
   obtain ⟨v,hc,hx⟩:=DataW.trod_bool hu h; subst hx; rw [hc]; rfl
  ·rename_i hu
   obtain ⟨v,hc,hx,_⟩:=DataW.trod_int hu h; subst hx; rw [hc]; rfl
  ·rename_i hu
   obtain ⟨v,hc,hx,_⟩:=DataW.trod_string hu h; subst hx; rw [hc]; simp [flat]
  ·rename_i fs hu
   obtain ⟨xs,m,hm,hx,hlen,hn,hf⟩:=DataW.trod_struct hu h
   obtain ⟨k1,k2,k3⟩:=kid_struct hl ht hu
   subst hx
   rw [List.all_eq_true] at hp
   simp only [flat,u8c]
   rw [List.flatMap_map,← range_flat]
   have:=pieces (fs.toList.map fun f=>P.cellsOf f.type) cs (atF (fun a=>flat a.1) xs) (by rw [hlen,k2]) fun i c hc=>by
    rw [List.getElem?_map] at hc
    obtain ⟨f,hf1,rfl⟩:=Option.map_eq_some_iff.1 hc
    have h1:=hf i f (by simpa using hf1)
    rw [k3 i f hf1] at h1
    rw [← List.map_take]
    have hi:=(List.getElem?_eq_some_iff.1 hf1).1
    have hix:i<xs.length:=by rw [hn]; simpa using hi
    rw [List.getElem?_eq_getElem hix] at h1
    rw [atF_some hix]
    exact trod_flat hl k m f.type _ _ (hp f (List.mem_of_getElem? hf1)) (k1 f (List.mem_of_getElem? hf1)) h1
   rw [List.length_map,Array.length_toList,← hn] at this
   exact this
  ·rename_i z e hu
   obtain ⟨xs,m,hm,hx,hlen,hn,hf⟩:=DataW.trod_array hu h
   obtain ⟨k1,k2⟩:=kid_array hl ht hu
   subst hx
   simp only [flat,u8c]
   rw [List.flatMap_map,← range_flat]
   have:=pieces (List.replicate z (P.cellsOf e)) cs (atF (fun a=>flat a.1) xs) (by rw [hlen,k2,List.sum_replicate_nat]) fun i c hc=>by
    obtain ⟨hi,hc⟩:=List.getElem?_eq_some_iff.1 hc
    simp only [List.length_replicate] at hi
    simp only [List.getElem_replicate] at hc
    subst hc
    have h1:=hf i hi
    rw [drop_sum_const z _ i (by omega)]
    have hix:i<xs.length:=by rw [hn]; exact hi
    rw [List.getElem?_eq_getElem hix] at h1
    rw [atF_some hix]
    exact trod_flat hl k m e _ _ hp k1 h1
   rw [List.length_replicate,← hn] at this
   exact this
  ·cases hp
end Go.Proofs.YtbkhnilbgocpnaaGreatDoor.SynF
