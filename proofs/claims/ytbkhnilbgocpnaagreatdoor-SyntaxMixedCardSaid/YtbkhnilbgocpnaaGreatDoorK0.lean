
set_option linter.unusedVariables false
set_option linter.unusedSimpArgs false
set_option maxRecDepth 100000
set_option maxHeartbeats 2000000

namespace Go.Proofs.YtbkhnilbgocpnaaGreatDoor.SynC
theorem tBEL {p:Prop} (h:p:=by repeat (first | with_reducible exact Below.refl _ _ | with_reducible refine Below.alloc ?_ (by first | omega | (simp only [u0c,u0i,u0p]; omega) | (simp; omega) | (simp; done)) _ | with_reducible refine Below.setCell ?_ (by first | omega | (simp only [u0c,u0i,u0p]; omega) | (simp; omega) | (simp; done)) _ | with_reducible refine Below.drew ?_)):p:=h
theorem tGB {p:Prop} (h:p:=by repeat (first | with_reducible exact u0r _ _ | with_reducible refine u0j ?_ (by with_reducible assumption) | with_reducible refine u0n ?_ _ | with_reducible refine gb_setCell ?_ (by first | exact .inl rfl | exact .inr (by first | omega | (simp only [u0c,u0i,u0p]; omega) | (simp; omega) | (simp; done))) _ | with_reducible refine gb_drew ?_)):p:=h
theorem tLOC {p:Prop} (h:p:=by repeat (first | with_reducible assumption | (with_reducible refine u0h ?_; focus (first | omega | (simp only [u0c,u0i,u0p]; omega) | (simp; omega) | (simp; done))) | (with_reducible refine u0e ?_ ?_; focus (first | omega | (simp only [u0c,u0i,u0p]; omega) | (simp; omega) | (simp; done))) | (with_reducible refine u7d ?_ ?_; focus (first | omega | (simp only [u0c,u0i,u0p]; omega) | (simp; omega) | (simp; done))))):p:=h
theorem tKP {p:Prop} (h:p:=by repeat (first | with_reducible exact kp_refl _ _ | with_reducible refine kp_alloc ?_ _ | (with_reducible refine kp_set ?_ ?_ _; rotate_left 1; focus (first | omega | (simp only [u0c,u0i,u0p]; omega) | (simp; omega) | (simp; done))) | (with_reducible refine kp_call ?_ (by with_reducible assumption) ?_; rotate_left 1; focus (first | omega | (simp only [u0c,u0i,u0p]; omega) | (simp; omega) | (simp; done))))):p:=h
theorem tRES {p:Prop} (h:p:=by repeat (first | with_reducible assumption | with_reducible apply put6 | with_reducible apply put5 | with_reducible apply put4 | with_reducible apply put3 | with_reducible apply put2 | (with_reducible refine u0h ?_; focus (first | omega | (simp only [u0c,u0i,u0p]; omega) | (simp; omega) | (simp; done))) | (with_reducible refine u0e ?_ ?_; focus (first | omega | (simp only [u0c,u0i,u0p]; omega) | (simp; omega) | (simp; done))) | (with_reducible refine u7d ?_ ?_; focus (first | omega | (simp only [u0c,u0i,u0p]; omega) | (simp; omega) | (simp; done))))):p:=h
theorem tREZ {p:Prop} (h:p:=by repeat (first | with_reducible assumption | with_reducible apply put6 | with_reducible apply put5 | with_reducible apply put4 | with_reducible apply put3 | with_reducible apply put2 | with_reducible apply put1 | (with_reducible refine u0h ?_; focus (first | omega | (simp only [u0c,u0i,u0p]; omega) | (simp; omega) | (simp; done))) | (with_reducible refine u0e ?_ ?_; focus (first | omega | (simp only [u0c,u0i,u0p]; omega) | (simp; omega) | (simp; done))) | (with_reducible refine u7d ?_ ?_; focus (first | omega | (simp only [u0c,u0i,u0p]; omega) | (simp; omega) | (simp; done))))):p:=h
theorem tLOX {p:Prop} (h:p:=by repeat (first | with_reducible assumption | (with_reducible refine u0h ?_; focus (first | omega | (simp only [u0c,u0i,u0p]; omega) | (simp; omega) | (simp; done))) | (with_reducible refine u0e ?_ ?_; focus (first | omega | (simp only [u0c,u0i,u0p]; omega) | (simp; omega) | (simp; done))) | (with_reducible refine u7d ?_ ?_; focus (first | omega | (simp only [u0c,u0i,u0p]; omega) | (simp; omega) | (simp; done))) | with_reducible apply p6_0 | with_reducible apply p6_1 | with_reducible apply p6_2 | with_reducible apply p6_3 | with_reducible apply p6_4 | with_reducible apply p6_5)):p:=h
theorem tKQ {p:Prop} (h:p:=by repeat (first | with_reducible exact kq_refl _ _ _ | with_reducible refine kq_alloc ?_ _ | (with_reducible refine kq_set ?_ ?_ _; rotate_left 1; focus (first | exact .inr rfl | exact .inl (by first | omega | (simp only [u0c,u0i,u0p]; omega) | (simp; omega) | (simp; done)))) | (with_reducible refine kq_call ?_ (by with_reducible assumption) ?_; rotate_left 1; focus (first | omega | (simp only [u0c,u0i,u0p]; omega) | (simp; omega) | (simp; done))))):p:=h
theorem tSZ {p:Prop} (h:p:=by first | omega | (simp only [u0c,u0i,u0p]; omega) | (simp; omega) | (simp; done)):p:=h
end Go.Proofs.YtbkhnilbgocpnaaGreatDoor.SynC
namespace Go.Proofs.YtbkhnilbgocpnaaGreatDoor.LexC
def bs (l:List UInt8):ByteArray:=⟨l.toArray⟩
theorem u4d (l:List UInt8):(bs l).data.toList=l:=by simp [bs]
theorem u7j (s:ByteArray):bs s.data.toList=s:=by cases s; simp [bs]
theorem u0l (s:ByteArray):s.data.toList.length=s.size:=Array.length_toList
theorem u4t (l:List UInt8):(bs l).size=l.length:=by rw [← u0l,u4d]
theorem eq_bs {s:ByteArray} {l:List UInt8} (h:s.data.toList=l):s=bs l:=by rw [← h,u7j]
theorem bs_inj {l m:List UInt8} (h:bs l=bs m):l=m:=by rw [← u4d l,← u4d m,h]
theorem u5r (s:ByteArray) (a b:Nat):(s.extract a b).data.toList=(s.data.toList.drop a).take (b - a):=by
 simp [ByteArray.data_extract]
theorem get_toList (s:ByteArray) (k:Nat) (h:k<s.size):s.data.toList[k]? = some s[k]:=by
 rw [List.getElem?_eq_getElem (by rw [u0l]; exact h)]; rfl
theorem u6b (s:ByteArray) (k:Nat) (h:k<s.size):s.data.toList.drop k=s[k] :: s.data.toList.drop (k+1):=by
 rw [List.drop_eq_getElem_cons (by rw [u0l]; exact h)]; rfl
theorem drop_nil (s:ByteArray) (k:Nat) (h:s.size≤k):s.data.toList.drop k=[]:=by
 rw [List.drop_eq_nil_iff,u0l]; exact h
def letN (n:Int):Bool:=decide (97≤n∧n≤122∨65≤n∧n≤90)
def digN (n:Int):Bool:=decide (48≤n∧n≤57)
def innN (n:Int):Bool:=letN n || digN n || decide (n=95)
def blkN (n:Int):Bool:=decide (n=32∨n=9∨n=10∨n=13)
def noEN (n:Int):Bool:=decide (n≠10)
def letB (c:UInt8):Bool:=letN c.toNat
def digB (c:UInt8):Bool:=digN c.toNat
def innB (c:UInt8):Bool:=innN c.toNat
def blkB (c:UInt8):Bool:=blkN c.toNat
def noE (c:UInt8):Bool:=noEN c.toNat
theorem inn_of_let {c:UInt8} (h:letB c=true):innB c=true:=by unfold innB innN; rw [show letN c.toNat=true from h]; rfl
theorem let_dig {c:UInt8} (h:letB c=true):digB c=false:=by
 unfold letB letN at h; unfold digB digN; simp at h ⊢; omega
def cnt (p:UInt8→Bool) (l:List UInt8):Nat:=(l.takeWhile p).length
theorem cnt_le (p:UInt8→Bool) (l:List UInt8):cnt p l≤l.length:=by
 unfold cnt; exact (List.takeWhile_prefix p).length_le
theorem cnt_nil (p:UInt8→Bool):cnt p []=0:=rfl
theorem cnt_cons_pos {p:UInt8→Bool} {c:UInt8} {r:List UInt8} (h:p c=true):cnt p (c :: r)=cnt p r+1:=by simp [cnt,h]
theorem cnt_cons_neg {p:UInt8→Bool} {c:UInt8} {r:List UInt8} (h:p c=false):cnt p (c :: r)=0:=by simp [cnt,h]
theorem take_cnt (p:UInt8→Bool) (l:List UInt8):l.take (cnt p l)=l.takeWhile p:=by
 unfold cnt
 exact (List.prefix_iff_eq_take.1 (List.takeWhile_prefix p)).symm
def AllUp (p:UInt8→Bool) (s:List UInt8) (k:Nat):Prop:=k≤s.length∧cnt p s=k+cnt p (s.drop k)
theorem allUp_zero (p:UInt8→Bool) (s:List UInt8):AllUp p s 0:=⟨by omega,by simp⟩
theorem AllUp.step {p:UInt8→Bool} {s:List UInt8} {k:Nat} {c:UInt8} (h:AllUp p s k) (hc:s[k]? = some c) (hp:p c=true):AllUp p s (k+1):=by
 obtain ⟨hl,he⟩:=List.getElem?_eq_some_iff.1 hc
 refine ⟨hl,?_⟩
 rw [h.2,List.drop_eq_getElem_cons hl,he,cnt_cons_pos hp]; omega
theorem AllUp.stop {p:UInt8→Bool} {s:List UInt8} {k:Nat} {c:UInt8} (h:AllUp p s k) (hc:s[k]? = some c) (hp:p c=false):cnt p s=k:=by
 obtain ⟨hl,he⟩:=List.getElem?_eq_some_iff.1 hc
 rw [h.2,List.drop_eq_getElem_cons hl,he,cnt_cons_neg hp]; omega
theorem AllUp.last {p:UInt8→Bool} {s:List UInt8} {k:Nat} (h:AllUp p s k) (hk:s.length≤k):cnt p s=k:=by
 rw [h.2,List.drop_eq_nil_of_le hk,cnt_nil]; omega
theorem u2e {p:UInt8→Bool} {t w:List UInt8} (ht:∀ c∈t,p c=true) (hw:∀ d r,w=d :: r→p d=false):(t++w).takeWhile p=t:=by
 induction t with
 | nil =>
  cases w with
  | nil=>rfl
  | cons d r=>simp [hw d r rfl]
 | cons c r ih =>
  have:=ih (fun c hc=>ht c (by simp [hc]))
  simp [ht c (by simp),this]
theorem u4e {p:UInt8→Bool} {l:List UInt8}:∀ c∈l.takeWhile p,p c=true:=by
 induction l with
 | nil=>intro c hc; simp at hc
 | cons d r ih =>
  intro c hc
  by_cases hd:p d=true
  ·simp [hd] at hc
   rcases hc with rfl | hc
   ·exact hd
   ·exact ih c hc
  ·simp [hd] at hc
def wordsL:List (List UInt8):=[[102,117,110,99],[107,101,114,110,101,108],[98,117,102,102,101,114],[105,110,116],[115,104,97,114,101,100],[108,101,116],[105,102],[101,108,115,101],[119,104,105,108,101],[98,114,101,97,107],[99,111,110,116,105,110,117,101],[114,101,116,117,114,110],[98,97,114,114,105,101,114],[97,116,111,109,105,99],[99,111,108,108,101,99,116],[116,105,100],[98,105,100],[100,105,109],[103,114,105,100],[109,105,110],[109,97,120],[97,100,100],[97,110,100],[111,114],[120,111,114]]
def u3h:List (List UInt8):=[[62,62,62],[60,60],[62,62],[60,61],[62,61],[61,61],[33,61],[60,58],[38,38],[124,124],[40],[41],[123],[125],[91],[93],[44],[59],[61],[43],[45],[42],[47],[37],[38],[124],[94],[126],[33],[60],[62]]
def u4x (t:List UInt8):Bool:=wordsL.contains t
def u2y:Int→List UInt8→Option Int
 | a,[]=>some a
 | a,c :: r=>if 2147483648<a * 10+((c.toNat:Int) - 48) then none else u2y (a * 10+((c.toNat:Int) - 48)) r
def wrap32 (n:Int):Int:=if n=2147483648 then -2147483648 else n
structure Tok where
 kind:Int
 pos:Int
 text:List UInt8
 num:Int
deriving DecidableEq
def u3n (l:List UInt8):Option Tok :=
 if u4x (l.takeWhile innB) then some ⟨2,0,l.takeWhile innB,0⟩ else if 16<(l.takeWhile innB).length then none else some ⟨0,0,l.takeWhile innB,0⟩
def u7i:List UInt8→Bool
 | d :: _=>innB d
 | []=>false
def u7c (l:List UInt8):Option Tok :=
 if u7i (l.drop (l.takeWhile digB).length) then none else (u2y 0 (l.takeWhile digB)).map fun v=>⟨1,0,l.takeWhile digB,wrap32 v⟩
def u7h (l:List UInt8):Option Tok:=(u3h.find? fun g=>g.isPrefixOf l).map fun g=>⟨2,0,g,0⟩
def u2d:List UInt8→Option Tok
 | []=>none
 | c :: r=>if letB c then u3n (c :: r) else if digB c then u7c (c :: r) else u7h (c :: r)
theorem u2m (c:UInt8) (r:List UInt8):u2d (c :: r)=if letB c then u3n (c :: r) else if digB c then u7c (c :: r) else u7h (c :: r):=rfl
def scan:Nat→List UInt8→Nat→List Tok × Option Nat
 | 0,_,_=>([],none)
 | _+1,[],_=>([],none)
 | n+1,c :: r,i =>
  if c=35 then scan n ((c :: r).drop (cnt noE (c :: r))) (i+cnt noE (c :: r))
  else if blkB c then scan n r (i+1)
  else match u2d (c :: r) with
   | none=>([],some i)
   | some t=>({ t with pos:=i } :: (scan n ((c :: r).drop t.text.length) (i+t.text.length)).1,(scan n ((c :: r).drop t.text.length) (i+t.text.length)).2)
theorem sign_len:∀ g∈u3h,1≤g.length∧g.length≤3:=by decide
theorem u6f {l:List UInt8} {t:Tok} (h:u2d l=some t) :
  (∃ c r,l=c :: r∧letB c=true∧t.text=l.takeWhile innB∧t.num=0∧(u4x t.text=true∧t.kind=2∨u4x t.text=false∧t.text.length≤16∧t.kind=0)) ∨
  (∃ c r v,l=c :: r∧letB c=false∧digB c=true∧t.text=l.takeWhile digB∧t.kind=1∧u2y 0 t.text=some v∧t.num=wrap32 v∧∀ d q,l.drop t.text.length=d :: q→innB d=false) ∨
  (∃ c r,l=c :: r∧letB c=false∧digB c=false∧u3h.find? (fun g=>g.isPrefixOf l)=some t.text∧t.kind=2∧t.num=0):=by
 cases l with
 | nil=>cases h
 | cons c r =>
  rw [u2m] at h
  by_cases h1:letB c=true
  ·rw [if_pos h1] at h
   unfold u3n at h
   refine .inl ⟨c,r,rfl,h1,?_⟩
   by_cases h2:u4x ((c :: r).takeWhile innB)=true
   ·rw [if_pos h2] at h; cases h; exact ⟨rfl,rfl,.inl ⟨h2,rfl⟩⟩
   ·rw [if_neg h2] at h
    by_cases h3:16<((c :: r).takeWhile innB).length
    ·rw [if_pos h3] at h; cases h
    ·rw [if_neg h3] at h; cases h; exact ⟨rfl,rfl,.inr ⟨by simpa using h2,Nat.le_of_not_lt h3,rfl⟩⟩
  ·rw [if_neg h1] at h
   have h1':letB c=false:=by simpa using h1
   by_cases h2:digB c=true
   ·rw [if_pos h2] at h
    unfold u7c at h
    refine .inr (.inl ?_)
    by_cases h3:u7i ((c :: r).drop ((c :: r).takeWhile digB).length)=true
    ·rw [if_pos h3] at h; cases h
    ·rw [if_neg h3] at h
     obtain ⟨v,hv,rfl⟩:=Option.map_eq_some_iff.1 h
     refine ⟨c,r,v,rfl,h1',h2,rfl,rfl,hv,rfl,fun d' q' e'=>?_⟩
     rw [show ((c :: r).drop ((c :: r).takeWhile digB).length)=d' :: q' from e'] at h3
     simpa [u7i] using h3
   ·rw [if_neg h2] at h
    obtain ⟨g,hg,rfl⟩:=Option.map_eq_some_iff.1 h
    exact .inr (.inr ⟨c,r,rfl,h1',by simpa using h2,hg,rfl,rfl⟩)
theorem tokenAt_pos {l:List UInt8} {t:Tok} (h:u2d l=some t):t.pos=0:=by
 cases l with
 | nil=>cases h
 | cons c r =>
  rw [u2m] at h
  split at h
  ·unfold u3n at h
   split at h
   ·cases h; rfl
   ·split at h
    ·cases h
    ·cases h; rfl
  ·split at h
   ·unfold u7c at h
    split at h
    ·cases h
    ·obtain ⟨v,_,rfl⟩:=Option.map_eq_some_iff.1 h; rfl
   ·obtain ⟨v,_,rfl⟩:=Option.map_eq_some_iff.1 h; rfl
theorem take_takeWhile (p:UInt8→Bool) (l:List UInt8):∃ v,l=l.takeWhile p++v:=by
 obtain ⟨v,hv⟩:=List.takeWhile_prefix (l:=l) p
 exact ⟨v,hv.symm⟩
theorem u7e {l:List UInt8} {t:Tok} (h:u2d l=some t):∃ v,l=t.text++v:=by
 rcases u6f h with ⟨c,r,_,_,ht,_⟩ | ⟨c,r,v,_,_,_,ht,_⟩ | ⟨c,r,_,_,_,hf,_⟩
 ·rw [ht]; exact take_takeWhile _ _
 ·rw [ht]; exact take_takeWhile _ _
 ·have:=List.find?_some hf
  obtain ⟨v,hv⟩:=List.isPrefixOf_iff_prefix.1 this
  exact ⟨v,hv.symm⟩
theorem u5i {l:List UInt8} {t:Tok} (h:u2d l=some t):1≤t.text.length:=by
 rcases u6f h with ⟨c,r,hl,h1,ht,_⟩ | ⟨c,r,v,hl,_,h2,ht,_⟩ | ⟨c,r,_,_,_,hf,_⟩
 ·rw [ht,hl]; simp [inn_of_let h1]
 ·rw [ht,hl]; simp [h2]
 ·exact (sign_len _ (List.mem_of_find?_eq_some hf)).1
theorem tokenAt_le {l:List UInt8} {t:Tok} (h:u2d l=some t):t.text.length≤l.length:=by
 obtain ⟨v,hv⟩:=u7e h
 rw [hv]; simp
theorem cnt_hash (r:List UInt8):1≤cnt noE (35 :: r):=by
 rw [cnt_cons_pos (by decide)]; omega
theorem scan_fuel:∀ (n m:Nat) (l:List UInt8) (i:Nat),l.length≤n→l.length≤m→scan n l i=scan m l i
 | 0,0,_,_,_,_=>rfl
 | 0,m+1,[],i,_,_=>rfl
 | 0,_+1,_ :: _,_,h,_=>by simp at h
 | n+1,0,[],i,_,_=>rfl
 | _+1,0,_ :: _,_,_,h=>by simp at h
 | n+1,m+1,[],_,_,_=>rfl
 | n+1,m+1,c :: r,i,hn,hm=>by
  simp at hn hm
  unfold scan
  by_cases h1:c=35
  ·rw [if_pos h1,if_pos h1]
   subst h1
   have:=cnt_hash r
   exact scan_fuel n m _ _ (by simp; omega) (by simp; omega)
  ·rw [if_neg h1,if_neg h1]
   by_cases h2:blkB c=true
   ·rw [if_pos h2,if_pos h2]; exact scan_fuel n m _ _ hn hm
   ·rw [if_neg h2,if_neg h2]
    cases ht:u2d (c :: r) with
    | none=>rfl
    | some t =>
     have:=u5i ht
     simp only
     rw [scan_fuel n m ((c :: r).drop t.text.length) (i+t.text.length) (by simp; omega) (by simp; omega)]
def sc (l:List UInt8) (i:Nat):List Tok × Option Nat:=scan l.length l i
theorem sc_nil (i:Nat):sc [] i=([],none):=rfl
theorem sc_hash (r:List UInt8) (i:Nat):sc (35 :: r) i=sc ((35 :: r).drop (cnt noE (35 :: r))) (i+cnt noE (35 :: r)):=by
 have:=cnt_hash r
 show scan (r.length+1) (35 :: r) i=_
 unfold scan
 rw [if_pos rfl]
 exact scan_fuel _ _ _ _ (by simp; omega) (Nat.le_refl _)
theorem blk_hash {c:UInt8} (h:blkB c=true):c≠35:=by rintro rfl; exact absurd h (by decide)
theorem sc_blank {c:UInt8} (r:List UInt8) (i:Nat) (h:blkB c=true):sc (c :: r) i=sc r (i+1):=by
 show scan (r.length+1) (c :: r) i=_
 unfold scan
 rw [if_neg (blk_hash h),if_pos h]; rfl
theorem sc_bad {c:UInt8} {r:List UInt8} {i:Nat} (h1:c≠35) (h2:blkB c=false) (h3:u2d (c :: r)=none):sc (c :: r) i=([],some i):=by
 show scan (r.length+1) (c :: r) i=_
 unfold scan
 rw [if_neg h1,if_neg (by simp [h2]),h3]
theorem sc_tok {c:UInt8} {r:List UInt8} {i:Nat} {t:Tok} (h1:c≠35) (h2:blkB c=false) (h3:u2d (c :: r)=some t) :
  sc (c :: r) i=({ t with pos:=i } :: (sc ((c :: r).drop t.text.length) (i+t.text.length)).1,(sc ((c :: r).drop t.text.length) (i+t.text.length)).2):=by
 have:=u5i h3
 show scan (r.length+1) (c :: r) i=_
 unfold scan
 rw [if_neg h1,if_neg (by simp [h2]),h3]
 simp only
 rw [scan_fuel r.length ((c :: r).drop t.text.length).length ((c :: r).drop t.text.length) (i+t.text.length) (by simp; omega) (Nat.le_refl _)]
 rfl
def u4s:List (List UInt8)→List UInt8
 | []=>[]
 | [t]=>t
 | t :: u :: r=>t++32 :: u4s (u :: r)
theorem joinL_snoc (T:List (List UInt8)) (t:List UInt8) (h:T≠[]):u4s (T++[t])=u4s T++32 :: t:=by
 induction T with
 | nil=>exact absurd rfl h
 | cons a r ih =>
  cases r with
  | nil=>rfl
  | cons b q =>
   have:=ih (by simp)
   simp only [List.cons_append] at this ⊢
   unfold u4s
   rw [this]
   simp [List.append_assoc]
theorem joinL_cons (t:List UInt8) (r:List (List UInt8)) (h:r≠[]):u4s (t :: r)=t++32 :: u4s r:=by
 cases r with
 | nil=>exact absurd rfl h
 | cons b q=>rfl
theorem take_succ_of {T:List (List UInt8)} {k:Nat} {t:List UInt8} (h:T[k]? = some t):T.take (k+1)=T.take k++[t]:=by
 rw [List.take_add_one,h]; rfl
theorem joinL_zero {T:List (List UInt8)} {t:List UInt8} (h:T[0]? = some t):u4s (T.take (0+1))=t:=by
 rw [take_succ_of h]; rfl
theorem joinL_step {T:List (List UInt8)} {k:Nat} {t:List UInt8} (h:T[k]? = some t) (hk:0<k):u4s (T.take (k+1))=u4s (T.take k)++32 :: t:=by
 rw [take_succ_of h]
 refine joinL_snoc _ _ ?_
 have:=(List.getElem?_eq_some_iff.1 h).1
 intro e
 have e2:=congrArg List.length e
 rw [List.length_take,List.length_nil] at e2
 omega
theorem joinL_len_snoc (T:List (List UInt8)) (t:List UInt8):(u4s T).length≤(u4s (T++[t])).length:=by
 by_cases h:T=[]
 ·subst h; simp [u4s]
 ·rw [joinL_snoc T t h]; simp
theorem joinL_take_le (T:List (List UInt8)):∀ k,(u4s (T.take k)).length≤(u4s T).length:=by
 have h:∀ n (U:List (List UInt8)),U.length=n→∀ k,(u4s (U.take k)).length≤(u4s U).length:=by
  intro n
  induction n with
  | zero=>intro U hU k; have:U=[]:=List.eq_nil_of_length_eq_zero hU; subst this; simp
  | succ n ih =>
   intro U hU k
   by_cases hk:U.length≤k
   ·rw [List.take_of_length_le hk]; exact Nat.le_refl _
   ·have hne:U≠[]:=by intro e; subst e; simp at hU
    have e:U=U.dropLast++[U.getLast hne]:=(List.dropLast_concat_getLast hne).symm
    have hl:U.dropLast.length=n:=by simp; omega
    have h1:=ih U.dropLast hl k
    have h2:=joinL_len_snoc U.dropLast (U.getLast hne)
    rw [← e] at h2
    have h3:U.take k=U.dropLast.take k:=by
     have:(U.dropLast++[U.getLast hne]).take k=U.dropLast.take k:=List.take_append_of_le_length (by omega)
     rw [← e] at this
     exact this
    rw [h3]
    exact Nat.le_trans h1 h2
 exact h T.length T rfl
theorem bs_append (l m:List UInt8):bs l++bs m=bs (l++m):=by
 apply ByteArray.ext
 simp [bs,ByteArray.data_append]
def Sep (w:List UInt8):Prop:=w=[]∨∃ d r,w=d :: r∧(blkB d=true∨d=35)
theorem Sep.not_inn {w:List UInt8} (h:Sep w):∀ d r,w=d :: r→innB d=false∧digB d=false:=by
 intro d r e
 rcases h with h | ⟨d',r',h,hb⟩
 ·rw [h] at e; cases e
 ·rw [h] at e
  cases e
  rcases hb with hb | rfl
  ·unfold blkB blkN at hb
   unfold innB innN letN digN digB digN
   simp at hb ⊢
   omega
  ·decide
theorem sign_heads:u3h.all (fun g=>match g with | []=>false | c :: _=>decide (c≠35)&&!blkB c&&!letB c&&!digB c&&!innB c)=true:=by decide
theorem sign_chars:u3h.all (fun g=>g.all fun c=>decide (c≠35)&&!blkB c&&!innB c)=true:=by decide
theorem sign_head {g:List UInt8} (h:g∈u3h):∃ c r,g=c :: r∧c≠35∧blkB c=false∧letB c=false∧digB c=false∧innB c=false:=by
 have:=List.all_eq_true.1 sign_heads g h
 cases g with
 | nil=>cases this
 | cons c r =>
  simp at this
  exact ⟨c,r,rfl,this.1.1.1.1,this.1.1.1.2,this.1.1.2,this.1.2,this.2⟩
theorem sign_char {g:List UInt8} (h:g∈u3h) {c:UInt8} (hc:c∈g):c≠35∧blkB c=false∧innB c=false:=by
 have:=List.all_eq_true.1 (List.all_eq_true.1 sign_chars g h) c hc
 simp at this
 exact ⟨this.1.1,this.1.2,this.2⟩
theorem let_head {c:UInt8} (h:letB c=true):c≠35∧blkB c=false:=by
 unfold letB letN at h
 unfold blkB blkN
 simp at h ⊢
 refine ⟨?_,by omega⟩
 rintro rfl
 simp at h
theorem dig_head {c:UInt8} (h:digB c=true):c≠35∧blkB c=false:=by
 unfold digB digN at h
 unfold blkB blkN
 simp at h ⊢
 refine ⟨?_,by omega⟩
 rintro rfl
 simp at h
def Good (t:Tok):Prop:=(∃ c r,t.text=c :: r∧c≠35∧blkB c=false)∧∀ w,Sep w→u2d (t.text++w)=some { t with pos:=0 }
theorem Good.pos {t:Tok} (h:Good t) (i:Int):Good { t with pos:=i }:=h
theorem sign_stable {t w v:List UInt8} (h:u3h.find? (fun g=>g.isPrefixOf (t++v))=some t) (hw:Sep w):u3h.find? (fun g=>g.isPrefixOf (t++w))=some t:=by
 rw [List.find?_eq_some_iff_append] at h ⊢
 obtain ⟨_,as,bs_,e,hn⟩:=h
 refine ⟨List.isPrefixOf_iff_prefix.2 ⟨w,rfl⟩,as,bs_,e,fun a ha=>?_⟩
 have hna:=hn a ha
 cases hp:a.isPrefixOf (t++w)
 ·rfl
 ·exfalso
  have ha2:a∈u3h:=by rw [e]; simp [ha]
  have hpre:=List.isPrefixOf_iff_prefix.1 hp
  have hat:a <+: t:=by
   rcases List.prefix_or_prefix_of_prefix hpre (List.prefix_append t w) with h1 | ⟨q,h1⟩
   ·exact h1
   ·cases q with
    | nil=>rw [← h1]; simp
    | cons d q =>
     rw [← h1,List.prefix_append_right_inj] at hpre
     obtain ⟨z,hz⟩:=hpre
     have hd:d∈a:=by rw [← h1]; simp
     obtain ⟨c1,c2,_⟩:=sign_char ha2 hd
     rcases hw with h2 | ⟨d',r',h2,hb⟩
     ·rw [h2] at hz; cases hz
     ·rw [h2] at hz
      cases hz
      rcases hb with hb | hb
      ·rw [hb] at c2; cases c2
      ·exact absurd hb c1
  have:a.isPrefixOf (t++v)=true:=List.isPrefixOf_iff_prefix.2 (hat.trans (List.prefix_append t v))
  simp [this] at hna
theorem u6p (t w:List UInt8):(t++w).drop t.length=w:=by simp
theorem u5t {l:List UInt8} {t:Tok} (h:u2d l=some t):Good t:=by
 have hpos:=tokenAt_pos h
 have hself:({ t with pos:=0 }:Tok)=t:=by cases t; simp at hpos; subst hpos; rfl
 unfold Good
 rw [hself]
 obtain ⟨v,hv⟩:=u7e h
 have hlen:=u5i h
 rcases u6f h with ⟨c,r,hl,h1,ht,hnum,hk⟩ | ⟨c,r,n,hl,h1,h2,ht,hk,hval,hnum,hd⟩ | ⟨c,r,hl,h1,h2,hf,hk,hnum⟩
 ·have hc:∃ q,t.text=c :: q:=by rw [ht,hl]; exact ⟨_,List.takeWhile_cons_of_pos (inn_of_let h1)⟩
  obtain ⟨q,hq⟩:=hc
  obtain ⟨n1,n2⟩:=let_head h1
  refine ⟨⟨c,q,hq,n1,n2⟩,fun w hw=>?_⟩
  have htw:(t.text++w).takeWhile innB=t.text:=u2e (by rw [ht]; exact u4e) (fun d r e=>(hw.not_inn d r e).1)
  have e:t.text++w=c :: (q++w):=by rw [hq]; rfl
  rw [e,u2m,if_pos h1,← e]
  unfold u3n
  rw [htw]
  obtain ⟨k,p,x,m⟩:=t
  simp only at hnum hk hpos ⊢
  subst hnum; subst hpos
  rcases hk with ⟨h3,rfl⟩ | ⟨h3,h4,rfl⟩
  ·rw [if_pos h3]
  ·rw [if_neg (by rw [h3]; decide),if_neg (by omega)]
 ·have hc:∃ q,t.text=c :: q:=by rw [ht,hl]; exact ⟨_,List.takeWhile_cons_of_pos h2⟩
  obtain ⟨q,hq⟩:=hc
  obtain ⟨n1,n2⟩:=dig_head h2
  refine ⟨⟨c,q,hq,n1,n2⟩,fun w hw=>?_⟩
  have htw:(t.text++w).takeWhile digB=t.text:=u2e (by rw [ht]; exact u4e) (fun d r e=>(hw.not_inn d r e).2)
  have e:t.text++w=c :: (q++w):=by rw [hq]; rfl
  rw [e,u2m,if_neg (by rw [h1]; decide),if_pos h2,← e]
  unfold u7c
  rw [htw,u6p,if_neg (by
   cases w with
   | nil=>simp [u7i]
   | cons d z=>simp [u7i,(hw.not_inn d z rfl).1]),hval]
  obtain ⟨k,p,x,m⟩:=t
  simp only at hnum hk hpos ⊢
  subst hnum; subst hpos; subst hk
  rfl
 ·have hm:=List.mem_of_find?_eq_some hf
  obtain ⟨c',q,hq,n1,n2,n3,n4,_⟩:=sign_head hm
  refine ⟨⟨c',q,hq,n1,n2⟩,fun w hw=>?_⟩
  have e:t.text++w=c' :: (q++w):=by rw [hq]; rfl
  rw [e,u2m,if_neg (by rw [n3]; decide),if_neg (by rw [n4]; decide),← e]
  unfold u7h
  rw [hv] at hf
  rw [sign_stable hf hw]
  obtain ⟨k,p,x,m⟩:=t
  simp only at hnum hk hpos ⊢
  subst hnum; subst hpos; subst hk
  rfl
theorem scan_good:∀ (n:Nat) (l:List UInt8) (i:Nat),∀ t∈(scan n l i).1,Good t
 | 0,_,_=>by intro t h; simp [scan] at h
 | _+1,[],_=>by intro t h; simp [scan] at h
 | n+1,c :: r,i=>by
  unfold scan
  split
  ·exact scan_good n _ _
  ·split
   ·exact scan_good n _ _
   ·split
    ·intro t h; simp at h
    ·rename_i t0 ht0
     intro t h
     rcases List.mem_cons.1 h with rfl | h
     ·exact (u5t ht0).pos _
     ·exact scan_good n _ _ t h
theorem sc_good {l:List UInt8} {i:Nat} {L:List Tok} {o:Option Nat} (h:sc l i=(L,o)):∀ t∈L,Good t:=by
 have:=scan_good l.length l i
 rw [show scan l.length l i=(L,o) from h] at this
 exact this
theorem scan_sum:∀ (n:Nat) (l:List UInt8) (i:Nat),((scan n l i).1.map (·.text.length)).sum≤l.length
 | 0,_,_=>by simp [scan]
 | _+1,[],_=>by simp [scan]
 | n+1,c :: r,i=>by
  unfold scan
  split
  ·have:=scan_sum n ((c :: r).drop (cnt noE (c :: r))) (i+cnt noE (c :: r))
   rw [List.length_drop] at this
   omega
  ·split
   ·have:=scan_sum n r (i+1)
    simp; omega
   ·split
    ·simp
    ·rename_i t0 ht0
     have h1:=tokenAt_le ht0
     have:=scan_sum n ((c :: r).drop t0.text.length) (i+t0.text.length)
     rw [List.length_drop] at this
     simp only [List.map_cons,List.sum_cons]
     omega
theorem u6z {t:Tok} (h:Good t) {w:List UInt8} (hw:Sep w) (i:Nat) :
  sc (t.text++w) i=({ t with pos:=(i:Int) } :: (sc w (i+t.text.length)).1,(sc w (i+t.text.length)).2):=by
 obtain ⟨⟨c,q,hq,n1,n2⟩,hT⟩:=h
 have ht:=hT w hw
 have e:t.text++w=c :: (q++w):=by rw [hq]; rfl
 have e2:=sc_tok (c:=c) (r:=q++w) (i:=i) (t:={ t with pos:=0 }) n1 n2 (by rw [← e]; exact ht)
 rw [← e] at e2
 rw [e2,u6p]
def key (t:Tok):Int × List UInt8 × Int:=(t.kind,t.text,t.num)
theorem sc_join (L:List Tok):(∀ t∈L,Good t)→∀ i,∃ M,sc (u4s (L.map (·.text))) i=(M,none)∧M.map key=L.map key:=by
 induction L with
 | nil=>exact fun _ i=>⟨[],rfl,rfl⟩
 | cons t r ih =>
  intro hg i
  have ht:=hg t (by simp)
  cases r with
  | nil =>
   have:=u6z ht (.inl rfl:Sep []) i
   rw [List.append_nil,sc_nil] at this
   exact ⟨_,this,rfl⟩
  | cons u q =>
   have hs:Sep (32 :: u4s ((u :: q).map (·.text))):=.inr ⟨32,_,rfl,.inl (by decide)⟩
   have h1:=u6z ht hs i
   rw [sc_blank _ _ (by decide)] at h1
   obtain ⟨M,hM,hk⟩:=ih (fun x hx=>hg x (by simp [hx])) (i+t.text.length+1)
   rw [hM] at h1
   refine ⟨{ t with pos:=(i:Int) } :: M,?_,?_⟩
   ·rw [List.map_cons,joinL_cons _ _ (by simp)]
    exact h1
   ·simp only [List.map_cons] at hk ⊢
    rw [hk]; rfl
def gaps:Bool→List UInt8→Option Bool
 | o,[]=>some o
 | o,c :: r=>if c=10 then gaps false r else if c=35 then gaps true r else if o=false∧blkB c=false then none else gaps o r
theorem u7q (o:Bool) (c:UInt8) (r:List UInt8):gaps o (c :: r)=if c=10 then gaps false r else if c=35 then gaps true r else if o=false∧blkB c=false then none else gaps o r:=by
 rw [gaps]
theorem gaps_append (o:Bool) (a b:List UInt8):gaps o (a++b)=(gaps o a).bind fun p=>gaps p b:=by
 induction a generalizing o with
 | nil=>rfl
 | cons c r ih =>
  rw [List.cons_append,u7q,u7q]
  by_cases h1:c=10
  ·rw [if_pos h1,if_pos h1]; exact ih _
  ·rw [if_neg h1,if_neg h1]
   by_cases h2:c=35
   ·rw [if_pos h2,if_pos h2]; exact ih _
   ·rw [if_neg h2,if_neg h2]
    by_cases h3:o=false∧blkB c=false
    ·rw [if_pos h3,if_pos h3]; rfl
    ·rw [if_neg h3,if_neg h3]; exact ih _
theorem gaps_comment:∀ l:List UInt8,(∀ c∈l,noE c=true)→gaps true l=some true
 | [],_=>rfl
 | c :: r,h=>by
  have hc:=h c (by simp)
  have h10:c≠10:=by rintro rfl; exact absurd hc (by decide)
  have:=gaps_comment r (fun x hx=>h x (by simp [hx]))
  rw [u7q,if_neg h10]
  by_cases h2:c=35
  ·rw [if_pos h2]; exact this
  ·rw [if_neg h2,if_neg (by simp)]; exact this
theorem gaps_hash (r:List UInt8):gaps false ((35 :: r).take (cnt noE (35 :: r)))=some true:=by
 rw [take_cnt]
 have h:∀ c∈(35 :: r:List UInt8).takeWhile noE,noE c=true:=u4e
 have e:(35 :: r:List UInt8).takeWhile noE=35 :: r.takeWhile noE:=List.takeWhile_cons_of_pos (by decide)
 rw [e] at h ⊢
 rw [u7q,if_neg (by decide),if_pos rfl]
 exact gaps_comment _ (fun c hc=>h c (by simp [hc]))
theorem after_comment (p:UInt8→Bool) (l:List UInt8):∀ d r,l.drop (cnt p l)=d :: r→p d=false:=by
 intro d r h
 have e:=List.takeWhile_append_dropWhile (p:=p) (l:=l)
 have e3:(l.takeWhile p++l.dropWhile p).drop (l.takeWhile p).length=l.dropWhile p:=by simp only [List.drop_left]
 rw [e] at e3
 have e2:l.dropWhile p=d :: r:=e3.symm.trans h
 cases hd:p d
 ·rfl
 ·exfalso
  have:=List.head_dropWhile_not p (show l.dropWhile p≠[] by rw [e2]; simp)
  simp only [e2,List.head_cons] at this
  rw [hd] at this
  cases this
theorem not_noE {d:UInt8} (h:noE d=false):d=10:=by
 unfold noE noEN at h
 simp at h
 apply UInt8.toNat_inj.1
 have:d.toNat=10:=by omega
 rw [this]; rfl
theorem ten_blank:blkB 10=true:=by decide
def First (u:List UInt8) (i:Nat) (t:Tok) (rest:List Tok):Prop :=
 ∃ g u',u=g++(t.text++u')∧t.pos=((i+g.length:Nat):Int)∧gaps false g=some false∧t.text≠[]∧sc u' (i+g.length+t.text.length)=(rest,none)∧u2d (t.text++u')=some { t with pos:=0 }
theorem first_aux:∀ (n:Nat) (u:List UInt8) (i:Nat) (t:Tok) (rest:List Tok),u.length≤n→sc u i=(t :: rest,none)→First u i t rest:=by
 intro n
 induction n with
 | zero =>
  intro u i t rest hn h
  have:u=[]:=List.eq_nil_of_length_eq_zero (by omega)
  subst this
  rw [sc_nil] at h
  cases h
 | succ n ih =>
  intro u i t rest hn h
  cases u with
  | nil=>rw [sc_nil] at h; cases h
  | cons c r =>
   simp only [List.length_cons] at hn
   by_cases h35:c=35
   ·subst h35
    rw [sc_hash] at h
    have hc1:=cnt_hash r
    obtain ⟨g,u',e,hp,hg,hne,hsc,htk⟩:=ih _ _ t rest (by simp; omega) h
    have hcl:=cnt_le noE (35 :: r)
    have hkl:((35 :: r).take (cnt noE (35 :: r))).length=cnt noE (35 :: r):=by rw [List.length_take]; omega
    refine ⟨(35 :: r).take (cnt noE (35 :: r))++g,u',?_,?_,?_,hne,?_,htk⟩
    ·rw [List.append_assoc,← e,List.take_append_drop]
    ·rw [hp,List.length_append,hkl]; omega
    ·rw [gaps_append,gaps_hash]
     show gaps true g=some false
     have ha:=after_comment noE (35 :: r)
     cases g with
     | nil =>
      exfalso
      rw [List.nil_append] at e
      cases hx:t.text with
      | nil=>exact hne hx
      | cons d q =>
       rw [hx] at e
       have hd:=not_noE (ha d (q++u') e)
       subst hd
       obtain ⟨⟨c',q',hq',n1,n2⟩,_⟩:=u5t htk
       have:({ t with pos:=0 }:Tok).text=10 :: q:=hx
       rw [this] at hq'
       cases hq'
       rw [ten_blank] at n2
       cases n2
     | cons d q =>
      have hd:=not_noE (ha d (q++(t.text++u')) e)
      subst hd
      rw [u7q,if_pos rfl] at hg ⊢
      exact hg
    ·rw [List.length_append,hkl,← Nat.add_assoc]; exact hsc
   ·cases hb:blkB c
    ·cases ht:u2d (c :: r) with
     | none=>rw [sc_bad h35 hb ht] at h; cases h
     | some t0 =>
      rw [sc_tok h35 hb ht] at h
      simp only [Prod.mk.injEq,List.cons.injEq] at h
      obtain ⟨⟨rfl,h1⟩,h2⟩:=h
      obtain ⟨v,hv⟩:=u7e ht
      have hl:=u5i ht
      refine ⟨[],v,by rw [List.nil_append]; exact hv,by simp,rfl,by intro e; rw [show t0.text=[] from e] at hl; simp at hl,?_,?_⟩
      ·have e:(c :: r).drop t0.text.length=v:=by rw [hv,u6p]
       rw [e] at h1 h2
       show sc v (i+0+t0.text.length)=(rest,none)
       rw [Nat.add_zero,← h1,← h2]
      ·show u2d (t0.text++v)=some { t0 with pos:=0 }
       rw [← hv,ht]
       have:=tokenAt_pos ht
       cases t0
       simp at this
       rw [this]
    ·rw [sc_blank _ _ hb] at h
     obtain ⟨g,u',e,hp,hg,hne,hsc,htk⟩:=ih _ _ t rest (by omega) h
     refine ⟨c :: g,u',by rw [e]; rfl,by rw [hp,List.length_cons]; omega,?_,hne,by rw [List.length_cons,show i+(g.length+1)=i+1+g.length by omega]; exact hsc,htk⟩
     rw [u7q]
     by_cases h10:c=10
     ·rw [if_pos h10]; exact hg
     ·rw [if_neg h10,if_neg h35,if_neg (by rw [hb]; simp)]; exact hg
theorem first {u:List UInt8} {i:Nat} {t:Tok} {rest:List Tok} (h:sc u i=(t :: rest,none)):First u i t rest:=first_aux u.length u i t rest (Nat.le_refl _) h
end Go.Proofs.YtbkhnilbgocpnaaGreatDoor.LexC
