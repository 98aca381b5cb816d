import Derived.WalkKit
import Derived.ProofKit
import Derived.Below
import Derived.OpenShut
import Derived.Deep.Slices
import Derived.Test.YtbkhnilbgocpnaaGreatDoorY0
set_option linter.unusedVariables false
set_option linter.unusedSimpArgs false
set_option maxRecDepth 100000
set_option maxHeartbeats 2000000
namespace Go.Proofs.YtbkhnilbgocpnaaGreatDoor.SynC
abbrev K:=Int × List UInt8 × Int
def sg (s:List UInt8):K:=(2,s,0)
def isS (s:List UInt8) (t:K):Bool:=t.1 == 2&&t.2.1 == s
inductive Ex where
 | mk (kind op num:Int) (name:List UInt8) (kids:List Ex)
inductive Res (α:Type) where
 | ok (a:α) (r:List K)
 | no (r:List K)
def Res.bind {α β:Type} (x:Res α) (f:α→List K→Res β):Res β :=
 match x with
 | .ok a r=>f a r
 | .no r=>.no r
theorem u1v {α β:Type} {x:Res α} {f g:α→List K→Res β} (h:∀ a r,x=.ok a r→f a r=g a r):x.bind f=x.bind g:=by
 cases x with
 | ok a r=>exact h a r rfl
 | no r=>rfl
theorem u0t {α β:Type} {x:Res α} {f:α→List K→Res β} {b:β} {r:List K} (h:x.bind f=.ok b r):∃ a q,x=.ok a q∧f a q=.ok b r:=by
 cases x with
 | ok a q=>exact ⟨a,q,rfl,h⟩
 | no q=>cases h
def need {β:Type} (s:List UInt8) (l:List K) (f:List K→Res β):Res β :=
 match l with
 | t :: r=>if isS s t then f r else .no l
 | []=>.no []
theorem need_congr {β:Type} {s:List UInt8} {l:List K} {f g:List K→Res β} (h:∀ t r,l=t :: r→f r=g r):need s l f=need s l g:=by
 cases l with
 | nil=>rfl
 | cons t r=>unfold need; simp only; rw [h t r rfl]
theorem u1j {β:Type} {s:List UInt8} {l:List K} {f:List K→Res β} {b:β} {q:List K} (h:need s l f=.ok b q):∃ t r,l=t :: r∧isS s t=true∧f r=.ok b q:=by
 cases l with
 | nil=>cases h
 | cons t r =>
  unfold need at h
  simp only at h
  split at h
  ·rename_i ht; exact ⟨t,r,rfl,ht,h⟩
  ·cases h
theorem need_hit {β:Type} {s:List UInt8} {t:K} {r:List K} {f:List K→Res β} (h:isS s t=true):need s (t :: r) f=f r:=by
 unfold need; simp only; rw [if_pos h]
def lev:Nat→List (List UInt8 × Int)
 | 1=>[([124,124],17)]
 | 2=>[([38,38],16)]
 | 3=>[([124],6)]
 | 4=>[([94],7)]
 | 5=>[([38],5)]
 | 6=>[([61,61],13),([33,61],14)]
 | 7=>[([60],11),([60,61],12),([62],11),([62,61],12),([60,58],15)]
 | 8=>[([60,60],8),([62,62],9),([62,62,62],10)]
 | 9=>[([43],0),([45],1)]
 | _=>[([42],2),([47],3),([37],4)]
def opOf (n:Nat) (t:K):Option Int:=if t.1 == 2 then (lev n).lookup t.2.1 else none
def bin (op:Int) (s:List UInt8) (a b:Ex):Ex:=if s == [62] || s == [62,61] then .mk 4 op 0 [] [b,a] else .mk 4 op 0 [] [a,b]
def unOf (t:K):Option Int:=if t.1 == 2 then [([45],(0:Int)),([126],1),([33],2)].lookup t.2.1 else none
def spOf (t:K):Option Int:=if t.1 == 2 then [([116,105,100],(0:Int)),([98,105,100],1),([100,105,109],2),([103,114,105,100],3)].lookup t.2.1 else none
def mmOf (t:K):Option Int:=if t.1 == 2 then [([109,105,110],(18:Int)),([109,97,120],19)].lookup t.2.1 else none
inductive Cmd where
 | ex (n:Nat)
 | tail (n:Nat) (a:Ex)
 | un
 | prim
 | named (x:List UInt8)
 | args (x:List UInt8) (kids:List Ex)
abbrev Rec:=Cmd→List K→Res Ex
def step (p:Rec):Cmd→List K→Res Ex
 | .ex n,l=>if 10<n then p .un l else (p (.ex (n+1)) l).bind fun a r=>p (.tail n a) r
 | .tail n a,l =>
  match l with
  | []=>.ok a []
  | t :: r =>
   match opOf n t with
   | some op=>(p (.ex (n+1)) r).bind fun b q=>p (.tail n (bin op t.2.1 a b)) q
   | none=>.ok a (t :: r)
 | .un,l =>
  match l with
  | []=>p .prim []
  | t :: r =>
   match unOf t with
   | some op=>(p .un r).bind fun a q=>.ok (.mk 3 op 0 [] [a]) q
   | none=>p .prim (t :: r)
 | .prim,l =>
  match l with
  | []=>.no []
  | t :: r =>
   if t.1 == 1 then .ok (.mk 0 0 t.2.2 [] []) r
   else if t.1 == 0 then p (.named t.2.1) r
   else
    match mmOf t with
    | some op=>need [40] r fun r1=>(p (.ex 1) r1).bind fun a r2=>need [44] r2 fun r3=>(p (.ex 1) r3).bind fun b r4=>need [41] r4 fun r5=>.ok (.mk 4 op 0 [] [a,b]) r5
    | none =>
     match spOf t with
     | some i=>.ok (.mk 2 i 0 [] []) r
     | none=>need [40] (t :: r) fun r1=>(p (.ex 1) r1).bind fun e r2=>need [41] r2 fun r3=>.ok e r3
 | .named x,l =>
  match l with
  | []=>.ok (.mk 1 0 0 x []) []
  | t :: r =>
   if isS [91] t then (p (.ex 1) r).bind fun e r2=>need [93] r2 fun r3=>.ok (.mk 5 0 0 x [e]) r3
   else if isS [40] t then
    match r with
    | []=>(p (.ex 1) []).bind fun e r2=>p (.args x [e]) r2
    | u :: q=>if isS [41] u then .ok (.mk 6 0 0 x []) q else (p (.ex 1) (u :: q)).bind fun e r2=>p (.args x [e]) r2
   else .ok (.mk 1 0 0 x []) (t :: r)
 | .args x kids,l =>
  match l with
  | []=>.no []
  | t :: r =>
   if isS [44] t then (p (.ex 1) r).bind fun e r2=>p (.args x (kids++[e])) r2
   else if isS [41] t then .ok (.mk 6 0 0 x kids) r
   else .no (t :: r)
def go:Nat→Rec
 | 0=>fun _ l=>.no l
 | f+1=>step (go f)
def wt:Cmd→Nat
 | .ex n=>3+(12 - n)
 | .un=>2
 | .prim=>1
 | _=>0
def mu (c:Cmd) (l:List K):Nat:=16 * l.length+wt c
def dl:Cmd→Nat
 | .ex _=>1
 | .un=>1
 | .prim=>1
 | _=>0
def LenP (p:Rec):Prop:=∀ c l a r,p c l=.ok a r→r.length+dl c≤l.length
theorem step_len {p:Rec} (h:LenP p):LenP (step p):=by
 intro c l a r e
 cases c with
 | ex n =>
  simp only [step] at e
  split at e
  ·have h1:=h _ _ _ _ e
   simp only [dl] at *
   omega
  ·obtain ⟨b,q,e1,e2⟩:=u0t e
   have h1:=h _ _ _ _ e1
   have h2:=h _ _ _ _ e2
   simp only [dl] at *
   omega
 | tail n x =>
  simp only [step] at e
  split at e
  ·cases e; simp [dl]
  ·split at e
   ·obtain ⟨b,q,e1,e2⟩:=u0t e
    have h1:=h _ _ _ _ e1
    have h2:=h _ _ _ _ e2
    simp only [dl,List.length_cons] at *
    omega
   ·cases e; simp [dl]
 | un =>
  simp only [step] at e
  split at e
  ·have h1:=h _ _ _ _ e
   simp only [dl] at *
   omega
  ·split at e
   ·obtain ⟨b,q,e1,e2⟩:=u0t e
    have h1:=h _ _ _ _ e1
    cases e2
    simp only [dl,List.length_cons] at *
    omega
   ·have h1:=h _ _ _ _ e
    simp only [dl] at *
    omega
 | prim =>
  simp only [step] at e
  split at e
  ·cases e
  ·split at e
   ·cases e; simp [dl]
   ·split at e
    ·have h1:=h _ _ _ _ e
     simp only [dl,List.length_cons] at *
     omega
    ·split at e
     ·obtain ⟨t1,r1,rfl,_,e⟩:=u1j e
      obtain ⟨b,q,e1,e⟩:=u0t e
      obtain ⟨t2,r2,rfl,_,e⟩:=u1j e
      obtain ⟨b2,q2,e2,e⟩:=u0t e
      obtain ⟨t3,r3,rfl,_,e⟩:=u1j e
      have h1:=h _ _ _ _ e1
      have h2:=h _ _ _ _ e2
      cases e
      simp only [dl,List.length_cons] at *
      omega
     ·split at e
      ·cases e; simp [dl]
      ·obtain ⟨t1,r1,e0,_,e⟩:=u1j e
       cases e0
       obtain ⟨b,q,e1,e⟩:=u0t e
       obtain ⟨t2,r2,rfl,_,e⟩:=u1j e
       have h1:=h _ _ _ _ e1
       cases e
       simp only [dl,List.length_cons] at *
       omega
 | named x =>
  simp only [step] at e
  split at e
  ·cases e; simp [dl]
  ·split at e
   ·obtain ⟨b,q,e1,e⟩:=u0t e
    obtain ⟨t2,r2,rfl,_,e⟩:=u1j e
    have h1:=h _ _ _ _ e1
    cases e
    simp only [dl,List.length_cons] at *
    omega
   ·split at e
    ·split at e
     ·obtain ⟨b,q,e1,e⟩:=u0t e
      have h1:=h _ _ _ _ e1
      have h2:=h _ _ _ _ e
      simp only [dl,List.length_cons,List.length_nil] at *
      omega
     ·split at e
      ·cases e; simp [dl]; omega
      ·obtain ⟨b,q,e1,e⟩:=u0t e
       have h1:=h _ _ _ _ e1
       have h2:=h _ _ _ _ e
       simp only [dl,List.length_cons] at *
       omega
    ·cases e; simp [dl]
 | args x kids =>
  simp only [step] at e
  split at e
  ·cases e
  ·split at e
   ·obtain ⟨b,q,e1,e⟩:=u0t e
    have h1:=h _ _ _ _ e1
    have h2:=h _ _ _ _ e
    simp only [dl,List.length_cons] at *
    omega
   ·split at e
    ·cases e; simp [dl]
    ·cases e
theorem go_len:∀ f,LenP (go f)
 | 0=>fun _ _ _ _ h=>by cases h
 | f+1=>step_len (go_len f)
theorem step_congr {p q:Rec} (c:Cmd) (l:List K) (hl:LenP q) (h:∀ c' l',mu c' l' < mu c l→p c' l'=q c' l'):step p c l=step q c l:=by
 cases c with
 | ex n =>
  simp only [step]
  split
  ·exact h _ _ (by simp only [mu,wt]; omega)
  ·rw [h (.ex (n+1)) l (by simp only [mu,wt]; omega)]
   refine u1v fun a r e=>h _ _ ?_
   have:=hl _ _ _ _ e
   simp only [dl,mu,wt] at *
   omega
 | tail n x =>
  simp only [step]
  split
  ·rfl
  ·split
   ·rename_i t r _ op _
    rw [h (.ex (n+1)) r (by simp only [mu,wt,List.length_cons]; omega)]
    refine u1v fun a r e=>h _ _ ?_
    have:=hl _ _ _ _ e
    simp only [dl,mu,wt,List.length_cons] at *
    omega
   ·rfl
 | un =>
  simp only [step]
  split
  ·exact h _ _ (by simp only [mu,wt]; omega)
  ·split
   ·rename_i t r _ op _
    rw [h .un r (by simp only [mu,wt,List.length_cons]; omega)]
   ·exact h _ _ (by simp only [mu,wt]; omega)
 | prim =>
  simp only [step]
  split
  ·rfl
  ·rename_i t r
   split
   ·rfl
   ·split
    ·exact h _ _ (by simp only [mu,wt,List.length_cons]; omega)
    ·split
     ·refine need_congr fun t1 r1 e1=>?_
      subst e1
      rw [h (.ex 1) r1 (by simp only [mu,wt,List.length_cons]; omega)]
      refine u1v fun a r2 e2=>need_congr fun t3 r3 e3=>?_
      have h2:=hl _ _ _ _ e2
      subst e3
      rw [h (.ex 1) r3 (by simp only [dl,mu,wt,List.length_cons] at *; omega)]
     ·split
      ·rfl
      ·refine need_congr fun t1 r1 e1=>?_
       cases e1
       rw [h (.ex 1) r (by simp only [mu,wt,List.length_cons]; omega)]
 | named x =>
  simp only [step]
  split
  ·rfl
  ·rename_i t r
   split
   ·rw [h (.ex 1) r (by simp only [mu,wt,List.length_cons]; omega)]
   ·split
    ·split
     ·rw [h (.ex 1) [] (by simp only [mu,wt,List.length_cons,List.length_nil]; omega)]
      refine u1v fun a r2 e2=>h _ _ ?_
      have h2:=hl _ _ _ _ e2
      simp only [dl,mu,wt,List.length_cons,List.length_nil] at *
      omega
     ·rename_i u q
      split
      ·rfl
      ·rw [h (.ex 1) (u :: q) (by simp only [mu,wt,List.length_cons]; omega)]
       refine u1v fun a r2 e2=>h _ _ ?_
       have h2:=hl _ _ _ _ e2
       simp only [dl,mu,wt,List.length_cons] at *
       omega
    ·rfl
 | args x kids =>
  simp only [step]
  split
  ·rfl
  ·rename_i t r
   split
   ·rw [h (.ex 1) r (by simp only [mu,wt,List.length_cons]; omega)]
    refine u1v fun a r2 e2=>h _ _ ?_
    have h2:=hl _ _ _ _ e2
    simp only [dl,mu,wt,List.length_cons] at *
    omega
   ·rfl
theorem go_stable:∀ f g c l,mu c l<f→mu c l<g→go f c l=go g c l
 | 0,_,_,_,h,_=>absurd h (Nat.not_lt_zero _)
 | _+1,0,_,_,_,h=>absurd h (Nat.not_lt_zero _)
 | f+1,g+1,c,l,hf,hg=>step_congr c l (go_len g) fun c' l' h=>go_stable f g c' l' (by omega) (by omega)
def PE (c:Cmd) (l:List K):Res Ex:=go (mu c l+1) c l
theorem go_PE {f:Nat} {c:Cmd} {l:List K} (h:mu c l<f):go f c l=PE c l:=go_stable _ _ c l h (Nat.lt_succ_self _)
theorem PE_len:LenP PE:=fun c l a r h=>go_len _ c l a r h
theorem u6z (c:Cmd) (l:List K):PE c l=step PE c l:=by
 show step (go (mu c l)) c l=_
 exact step_congr c l PE_len fun c' l' h=>go_PE h
def u2f:List (List K)→List K
 | []=>[]
 | t :: r=>t++r.flatMap fun u=>sg [44] :: u
def u5h (op:Int):List UInt8 :=
 if op=0 then [43] else if op=1 then [45] else if op=2 then [42] else if op=3 then [47] else if op=4 then [37] else if op=5 then [38] else if op=6 then [124] else if op=7 then [94]
 else if op=8 then [60,60] else if op=9 then [62,62] else if op=10 then [62,62,62] else if op=11 then [60] else if op=12 then [60,61] else if op=13 then [61,61] else if op=14 then [33,61]
 else if op=15 then [60,58] else if op=16 then [38,38] else if op=17 then [124,124] else if op=18 then [109,105,110] else [109,97,120]
def u7y (op:Int):List UInt8:=if op=0 then [45] else if op=1 then [126] else [33]
def spText (op:Int):List UInt8:=if op=0 then [116,105,100] else if op=1 then [98,105,100] else if op=2 then [100,105,109] else [103,114,105,100]
def u4v (dg:Int→List UInt8) (kind op num:Int) (name:List UInt8) (ks:List (List K)):List K :=
 if kind=0 then [(1,dg num,num)]
 else if kind=2 then [sg (spText op)]
 else if kind=3 then sg (u7y op) :: ks.getD 0 []
 else if kind=4 then
  if op=18∨op=19 then sg (u5h op) :: sg [40] :: (ks.getD 0 []++sg [44] :: (ks.getD 1 []++[sg [41]]))
  else sg [40] :: (ks.getD 0 []++sg (u5h op) :: (ks.getD 1 []++[sg [41]]))
 else if kind=5 then (0,name,0) :: sg [91] :: (ks.getD 0 []++[sg [93]])
 else if kind=6 then (0,name,0) :: sg [40] :: (u2f ks++[sg [41]])
 else [(0,name,0)]
mutual
def tE (dg:Int→List UInt8):Ex→List K
 | .mk kind op num name kids=>u4v dg kind op num name (tEs dg kids)
def tEs (dg:Int→List UInt8):List Ex→List (List K)
 | []=>[]
 | e :: r=>tE dg e :: tEs dg r
end
theorem tEs_map (dg:Int→List UInt8):∀ l:List Ex,tEs dg l=l.map (tE dg)
 | []=>by rw [tEs]; rfl
 | e :: r=>by rw [tEs,tEs_map dg r]; rfl
def u1h (nm:List UInt8→Bool) (kind op num:Int) (name:List UInt8) (n:Nat):Bool :=
 if kind=0 then op == 0&&name.isEmpty&&(decide (0≤num∧num<2147483648) || num == -2147483648)&&n == 0
 else if kind=1 then op == 0&&nm name&&num == 0&&n == 0
 else if kind=2 then decide (0≤op∧op<4)&&name.isEmpty&&num == 0&&n == 0
 else if kind=3 then decide (0≤op∧op<3)&&name.isEmpty&&num == 0&&n == 1
 else if kind=4 then decide (0≤op∧op<20)&&name.isEmpty&&num == 0&&n == 2
 else if kind=5 then op == 0&&nm name&&num == 0&&n == 1
 else if kind=6 then op == 0&&nm name&&num == 0&&decide (n≤6)
 else false
mutual
def okE (nm:List UInt8→Bool):Ex→Bool
 | .mk kind op num name kids=>u1h nm kind op num name kids.length&&okEs nm kids
def okEs (nm:List UInt8→Bool):List Ex→Bool
 | []=>true
 | e :: r=>okE nm e&&okEs nm r
end
def NoOp (n m:Nat) (r:List K):Prop:=∀ k,n≤k→k<m→∀ t q,r=t :: q→opOf k t=none
theorem ex11 (l:List K):PE (.ex 11) l=PE .un l:=by rw [u6z,step,if_pos (by omega)]
theorem op_cases {op:Int} (h0:0≤op) (h1:op<18):op=0∨op=1∨op=2∨op=3∨op=4∨op=5∨op=6∨op=7∨op=8∨op=9∨op=10∨op=11∨op=12∨op=13∨op=14∨op=15∨op=16∨op=17:=by omega
theorem two_kids {l:List Ex} (h:l.length=2):∃ a b,l=[a,b]:=by
 match l,h with
 | [a,b],_=>exact ⟨a,b,rfl⟩
inductive St where
 | mk (kind op:Int) (name:List UInt8) (exprs:List Ex) (body els:List St)
def wIf:List UInt8:=[105,102]
def wElse:List UInt8:=[101,108,115,101]
def u5u:List UInt8:=[119,104,105,108,101]
def wLet:List UInt8:=[108,101,116]
def u6k:List UInt8:=[98,114,101,97,107]
def u2y:List UInt8:=[99,111,110,116,105,110,117,101]
def u3i:List UInt8:=[114,101,116,117,114,110]
def u4s:List UInt8:=[98,97,114,114,105,101,114]
def u4z:List UInt8:=[97,116,111,109,105,99]
def u3u:List UInt8:=[99,111,108,108,101,99,116]
def foldOf (t:K):Option Int :=
 if t.1 == 2 then [([97,100,100],(0:Int)),([109,105,110],18),([109,97,120],19),([97,110,100],5),([111,114],6),([120,111,114],7)].lookup t.2.1 else none
def u2x (op:Int):List UInt8 :=
 if op=0 then [97,100,100] else if op=18 then [109,105,110] else if op=19 then [109,97,120] else if op=5 then [97,110,100] else if op=6 then [111,114] else [120,111,114]
def u6d {β:Type} (l:List K) (f:List UInt8→List K→Res β):Res β :=
 match l with
 | t :: r=>if t.1 == 0 then f t.2.1 r else .no l
 | []=>.no []
def needI {β:Type} (l:List K) (f:Int→List K→Res β):Res β :=
 match l with
 | t :: r=>if t.1 == 1 then f t.2.2 r else .no l
 | []=>.no []
def needF {β:Type} (l:List K) (f:Int→List K→Res β):Res β :=
 match l with
 | t :: r=>match foldOf t with
  | some op=>f op r
  | none=>.no l
 | []=>.no []
def u8r {β:Type} (l:List K) (f:Ex→List K→Res β):Res β:=(PE (.ex 1) l).bind f
theorem needF_hit {β:Type} {t:K} {op:Int} (h:foldOf t=some op) {r:List K} {f:Int→List K→Res β}:needF (t :: r) f=f op r:=by
 unfold needF; simp only [h]
def Short {α:Type} (n:Nat) (x:Res α):Prop:=∀ a r,x=.ok a r→r.length≤n
theorem u3x {α:Type} {n:Nat} {a:α} {r:List K} (h:r.length≤n):Short n (.ok a r):=fun _ _ e=>by cases e; exact h
theorem u5x {α:Type} {n:Nat} {r:List K}:Short n (.no r:Res α):=fun _ _ e=>by cases e
theorem u9h {α β:Type} {n:Nat} {x:Res α} {f:α→List K→Res β} (h:∀ a r,x=.ok a r→Short n (f a r)):Short n (x.bind f):=by
 cases x with
 | ok a r=>exact h a r rfl
 | no r=>exact u5x
theorem u1t {β:Type} {n:Nat} {s:List UInt8} {l:List K} {f:List K→Res β} (h:∀ r,r.length+1=l.length→Short n (f r)):Short n (need s l f):=by
 cases l with
 | nil=>exact u5x
 | cons t r=>unfold need; simp only; split; exact h r rfl; exact u5x
theorem u8o {β:Type} {n:Nat} {l:List K} {f:List UInt8→List K→Res β} (h:∀ x r,r.length+1=l.length→Short n (f x r)):Short n (u6d l f):=by
 cases l with
 | nil=>exact u5x
 | cons t r=>unfold u6d; simp only; split; exact h _ r rfl; exact u5x
theorem short_needI {β:Type} {n:Nat} {l:List K} {f:Int→List K→Res β} (h:∀ x r,r.length+1=l.length→Short n (f x r)):Short n (needI l f):=by
 cases l with
 | nil=>exact u5x
 | cons t r=>unfold needI; simp only; split; exact h _ r rfl; exact u5x
theorem short_needF {β:Type} {n:Nat} {l:List K} {f:Int→List K→Res β} (h:∀ x r,r.length+1=l.length→Short n (f x r)):Short n (needF l f):=by
 cases l with
 | nil=>exact u5x
 | cons t r=>unfold needF; simp only; split; exact h _ r rfl; exact u5x
theorem u4a {β:Type} {n:Nat} {l:List K} {f:Ex→List K→Res β} (h:∀ x r,r.length+1≤l.length→Short n (f x r)):Short n (u8r l f) :=
 u9h fun a r e=>h a r (PE_len _ _ _ _ e)
theorem u9o {β:Type} {s:List UInt8} {l:List K} {f g:List K→Res β} (h:∀ r,r.length+1=l.length→f r=g r):need s l f=need s l g :=
 need_congr fun t r e=>h r (by rw [e]; rfl)
theorem cong_needE {β:Type} {l:List K} {f g:Ex→List K→Res β} (h:∀ x r,r.length+1≤l.length→f x r=g x r):u8r l f=u8r l g :=
 u1v fun a r e=>h a r (PE_len _ _ _ _ e)
abbrev Rst:=List K→Res (List St)
def elseP (p:Rst) (e:Ex) (b:List St) (l:List K):Res St :=
 match l with
 | []=>.ok (.mk 3 0 [] [e] b []) []
 | t :: r=>if isS wElse t then need [123] r fun r1=>(p r1).bind fun c r2=>.ok (.mk 3 0 [] [e] b c) r2 else .ok (.mk 3 0 [] [e] b []) (t :: r)
def retP (l:List K):Res St :=
 match l with
 | []=>.no []
 | t :: r=>if isS [59] t then .ok (.mk 7 0 [] [] [] []) r else u8r (t :: r) fun e r1=>need [59] r1 fun r2=>.ok (.mk 7 0 [] [e] [] []) r2
def namP (x:List UInt8) (l:List K):Res St :=
 match l with
 | []=>.no []
 | t :: r =>
  if isS [91] t then u8r r fun a r1=>need [93] r1 fun r2=>need [61] r2 fun r3=>u8r r3 fun b r4=>need [59] r4 fun r5=>.ok (.mk 2 0 x [a,b] [] []) r5
  else need [61] (t :: r) fun r1=>u8r r1 fun e r2=>need [59] r2 fun r3=>.ok (.mk 1 0 x [e] [] []) r3
def stmtP (p:Rst) (t:K) (r:List K):Res St :=
 if isS wIf t then u8r r fun e r1=>need [123] r1 fun r2=>(p r2).bind fun b r3=>elseP p e b r3
 else if isS u5u t then u8r r fun e r1=>need [123] r1 fun r2=>(p r2).bind fun b r3=>.ok (.mk 4 0 [] [e] b []) r3
 else if isS wLet t then u6d r fun x r1=>need [61] r1 fun r2=>u8r r2 fun e r3=>need [59] r3 fun r4=>.ok (.mk 0 0 x [e] [] []) r4
 else if isS u6k t then need [59] r fun r1=>.ok (.mk 5 0 [] [] [] []) r1
 else if isS u2y t then need [59] r fun r1=>.ok (.mk 6 0 [] [] [] []) r1
 else if isS u3i t then retP r
 else if isS u4s t then need [59] r fun r1=>.ok (.mk 8 0 [] [] [] []) r1
 else if isS u4z t then needF r fun op r1=>u6d r1 fun x r2=>need [91] r2 fun r3=>u8r r3 fun a r4=>need [93] r4 fun r5=>need [44] r5 fun r6 =>
  u8r r6 fun b r7=>need [59] r7 fun r8=>.ok (.mk 9 op x [a,b] [] []) r8
 else if isS u3u t then u6d r fun x r1=>need [61] r1 fun r2=>needF r2 fun op r3=>u8r r3 fun e r4=>need [59] r4 fun r5=>.ok (.mk 10 op x [e] [] []) r5
 else u6d (t :: r) fun x r1=>namP x r1
def restP (p:Rst) (l:List K):Res (List St) :=
 match l with
 | []=>.no []
 | t :: r=>if isS [125] t then .ok [] r else (stmtP p t r).bind fun s q=>(p q).bind fun ss q2=>.ok (s :: ss) q2
def goS:Nat→Rst
 | 0=>fun l=>.no l
 | f+1=>restP (goS f)
def LenS (p:Rst):Prop:=∀ l a r,p l=.ok a r→r.length+1≤l.length
theorem elseP_len {p:Rst} (h:LenS p) (e:Ex) (b:List St) (l:List K):Short l.length (elseP p e b l):=by
 unfold elseP
 split
 ·exact u3x (by simp)
 ·split
  ·refine u1t fun r1 h1=>u9h fun a r2 h2=>u3x ?_
   have:=h _ _ _ h2
   simp only [List.length_cons]; omega
  ·exact u3x (by simp)
theorem retP_len (l:List K):Short (l.length - 1) (retP l):=by
 unfold retP
 split
 ·exact u5x
 ·split
  ·exact u3x (by simp)
  ·refine u4a fun e r1 h1=>u1t fun r2 h2=>u3x ?_
   simp only [List.length_cons] at *; omega
theorem namP_len (x:List UInt8) (l:List K):Short (l.length - 1) (namP x l):=by
 unfold namP
 split
 ·exact u5x
 ·split
  ·refine u4a fun a r1 h1=>u1t fun r2 h2=>u1t fun r3 h3=>u4a fun b r4 h4=>u1t fun r5 h5=>u3x ?_
   simp only [List.length_cons] at *; omega
  ·refine u1t fun r1 h1=>u4a fun e r2 h2=>u1t fun r3 h3=>u3x ?_
   simp only [List.length_cons] at *; omega
theorem stmtP_len {p:Rst} (h:LenS p) (t:K) (r:List K):Short r.length (stmtP p t r):=by
 unfold stmtP
 split
 ·refine u4a fun e r1 h1=>u1t fun r2 h2=>u9h fun b r3 h3 a r4 h4=>?_
  have:=h _ _ _ h3
  have:=elseP_len h _ _ _ _ _ h4
  omega
 split
 ·refine u4a fun e r1 h1=>u1t fun r2 h2=>u9h fun b r3 h3=>u3x ?_
  have:=h _ _ _ h3
  omega
 split
 ·exact u8o fun x r1 h1=>u1t fun r2 h2=>u4a fun e r3 h3=>u1t fun r4 h4=>u3x (by omega)
 split
 ·exact u1t fun r1 h1=>u3x (by omega)
 split
 ·exact u1t fun r1 h1=>u3x (by omega)
 split
 ·intro a q e
  have:=retP_len _ _ _ e
  omega
 split
 ·exact u1t fun r1 h1=>u3x (by omega)
 split
 ·exact short_needF fun op r1 h1=>u8o fun x r2 h2=>u1t fun r3 h3=>u4a fun a r4 h4=>u1t fun r5 h5=>u1t fun r6 h6 =>
   u4a fun b r7 h7=>u1t fun r8 h8=>u3x (by omega)
 split
 ·exact u8o fun x r1 h1=>u1t fun r2 h2=>short_needF fun op r3 h3=>u4a fun e r4 h4=>u1t fun r5 h5=>u3x (by omega)
 ·refine u8o fun x r1 h1 a q e=>?_
  have:=namP_len _ _ _ _ e
  simp only [List.length_cons] at h1
  omega
theorem restP_len {p:Rst} (h:LenS p):LenS (restP p):=by
 intro l a r e
 unfold restP at e
 split at e
 ·cases e
 ·split at e
  ·cases e; simp
  ·obtain ⟨s,q,e1,e⟩:=u0t e
   obtain ⟨ss,q2,e2,e⟩:=u0t e
   have h1:=stmtP_len h _ _ _ _ e1
   have h2:=h _ _ _ e2
   cases e
   simp only [List.length_cons]; omega
theorem goS_len:∀ f,LenS (goS f)
 | 0=>fun _ _ _ h=>by cases h
 | f+1=>restP_len (goS_len f)
theorem stmtP_congr {p q:Rst} (t:K) (r:List K) (hl:LenS q) (h:∀ l,l.length<r.length→p l=q l):stmtP p t r=stmtP q t r:=by
 unfold stmtP
 split
 ·refine cong_needE fun e r1 h1=>u9o fun r2 h2=>?_
  rw [h r2 (by omega)]
  refine u1v fun b r3 h3=>?_
  have:=hl _ _ _ h3
  unfold elseP
  split
  ·rfl
  ·rename_i u v
   split
   ·refine u9o fun r5 h5=>?_
    rw [h r5 (by simp only [List.length_cons] at *; omega)]
   ·rfl
 split
 ·refine cong_needE fun e r1 h1=>u9o fun r2 h2=>?_
  rw [h r2 (by omega)]
 rfl
theorem restP_congr {p q:Rst} (l:List K) (hl:LenS q) (h:∀ l',l'.length<l.length→p l'=q l'):restP p l=restP q l:=by
 unfold restP
 split
 ·rfl
 ·rename_i t r
  split
  ·rfl
  ·rw [stmtP_congr t r hl fun l' h'=>h l' (by simp only [List.length_cons]; omega)]
   refine u1v fun s q2 e=>?_
   have:=stmtP_len hl _ _ _ _ e
   rw [h q2 (by simp only [List.length_cons]; omega)]
theorem goS_stable:∀ f g l,l.length<f→l.length<g→goS f l=goS g l
 | 0,_,_,h,_=>absurd h (Nat.not_lt_zero _)
 | _+1,0,_,_,h=>absurd h (Nat.not_lt_zero _)
 | f+1,g+1,l,hf,hg=>restP_congr l (goS_len g) fun l' h=>goS_stable f g l' (by omega) (by omega)
def PR (l:List K):Res (List St):=goS (l.length+1) l
theorem goS_PR {f:Nat} {l:List K} (h:l.length<f):goS f l=PR l:=goS_stable _ _ l h (Nat.lt_succ_self _)
theorem PR_len:LenS PR:=fun l a r h=>goS_len _ l a r h
theorem PR_eq (l:List K):PR l=restP PR l:=by
 show restP (goS l.length) l=_
 exact restP_congr l PR_len fun l' h=>goS_PR h
def u2i (b:List K):List K:=sg [123] :: (b++[sg [125]])
def stT (kind op:Int) (name:List UInt8) (es:List (List K)) (b c:List K) (ne:Bool):List K :=
 if kind=0 then sg wLet :: (0,name,0) :: sg [61] :: (es.getD 0 []++[sg [59]])
 else if kind=1 then (0,name,0) :: sg [61] :: (es.getD 0 []++[sg [59]])
 else if kind=2 then (0,name,0) :: sg [91] :: (es.getD 0 []++sg [93] :: sg [61] :: (es.getD 1 []++[sg [59]]))
 else if kind=3 then sg wIf :: (es.getD 0 []++(u2i b++if ne then [] else sg wElse :: u2i c))
 else if kind=4 then sg u5u :: (es.getD 0 []++u2i b)
 else if kind=5 then [sg u6k,sg [59]]
 else if kind=6 then [sg u2y,sg [59]]
 else if kind=7 then sg u3i :: (es.getD 0 []++[sg [59]])
 else if kind=9 then sg u4z :: sg (u2x op) :: (0,name,0) :: sg [91] :: (es.getD 0 []++sg [93] :: sg [44] :: (es.getD 1 []++[sg [59]]))
 else if kind=10 then sg u3u :: (0,name,0) :: sg [61] :: sg (u2x op) :: (es.getD 0 []++[sg [59]])
 else [sg u4s,sg [59]]
mutual
def tS (dg:Int→List UInt8):St→List K
 | .mk kind op name exprs body els=>stT kind op name (exprs.map (tE dg)) (tSs dg body) (tSs dg els) els.isEmpty
def tSs (dg:Int→List UInt8):List St→List K
 | []=>[]
 | s :: r=>tS dg s++tSs dg r
end
def u7a (op:Int):Bool:=op == 0 || op == 18 || op == 19 || op == 5 || op == 6 || op == 7
def u0u (nm:List UInt8→Bool) (kind op:Int) (name:List UInt8) (n:Nat) (nb ne:Bool):Bool :=
 if kind=0∨kind=1 then op == 0&&nm name&&n == 1&&nb&&ne
 else if kind=2 then op == 0&&nm name&&n == 2&&nb&&ne
 else if kind=3 then op == 0&&name.isEmpty&&n == 1
 else if kind=4 then op == 0&&name.isEmpty&&n == 1&&ne
 else if kind=5∨kind=6∨kind=8 then op == 0&&name.isEmpty&&n == 0&&nb&&ne
 else if kind=7 then op == 0&&name.isEmpty&&decide (n≤1)&&nb&&ne
 else if kind=9 then u7a op&&nm name&&n == 2&&nb&&ne
 else if kind=10 then u7a op&&nm name&&n == 1&&nb&&ne
 else false
mutual
def okS (nm:List UInt8→Bool):St→Bool
 | .mk kind op name exprs body els=>u0u nm kind op name exprs.length body.isEmpty els.isEmpty&&exprs.all (okE nm)&&okSs nm body&&okSs nm els
def okSs (nm:List UInt8→Bool):List St→Bool
 | []=>true
 | s :: r=>okS nm s&&okSs nm r
end
inductive It where
 | fn (name:List UInt8) (params:List (List UInt8)) (body:List St)
 | ker (name:List UInt8) (params:List (List UInt8 × Bool)) (shared:List (List UInt8 × Int)) (body:List St)
def u8z:List UInt8:=[102,117,110,99]
def u7t:List UInt8:=[107,101,114,110,101,108]
def u7u:List UInt8:=[98,117,102,102,101,114]
def wInt:List UInt8:=[105,110,116]
def u4e:List UInt8:=[115,104,97,114,101,100]
def moreP {α:Type} (one:List K→Res α):Nat→List K→Res (List α)
 | 0,l=>.no l
 | f+1,l =>
  match l with
  | []=>.no []
  | t :: r=>if isS [44] t then (one r).bind fun a q=>(moreP one f q).bind fun as q2=>.ok (a :: as) q2 else if isS [41] t then .ok [] r else .no (t :: r)
def listP {α:Type} (one:List K→Res α) (l:List K):Res (List α) :=
 need [40] l fun r =>
  match r with
  | []=>.no []
  | t :: q=>if isS [41] t then .ok [] q else (one (t :: q)).bind fun a q1=>(moreP one (q1.length+1) q1).bind fun as q2=>.ok (a :: as) q2
def LenO {α:Type} (one:List K→Res α):Prop:=∀ l a r,one l=.ok a r→r.length+1≤l.length
theorem moreP_len {α:Type} {one:List K→Res α} (h:LenO one):∀ f,LenO (moreP one f)
 | 0=>fun _ _ _ e=>by cases e
 | f+1=>by
  intro l a r e
  unfold moreP at e
  split at e
  ·cases e
  ·split at e
   ·obtain ⟨b,q,e1,e⟩:=u0t e
    obtain ⟨bs,q2,e2,e⟩:=u0t e
    have h1:=h _ _ _ e1
    have h2:=moreP_len h f _ _ _ e2
    cases e
    simp only [List.length_cons]; omega
   ·split at e
    ·cases e; simp
    ·cases e
theorem moreP_stable {α:Type} {one:List K→Res α} (h:LenO one):∀ f g l,l.length<f→l.length<g→moreP one f l=moreP one g l
 | 0,_,_,h,_=>absurd h (Nat.not_lt_zero _)
 | _+1,0,_,_,h=>absurd h (Nat.not_lt_zero _)
 | f+1,g+1,l,hf,hg=>by
  unfold moreP
  split
  ·rfl
  ·rename_i t r
   split
   ·refine u1v fun a q e=>?_
    have:=h _ _ _ e
    simp only [List.length_cons] at hf hg
    rw [moreP_stable h f g q (by omega) (by omega)]
   ·rfl
theorem listP_len {α:Type} {one:List K→Res α} (h:LenO one):LenO (listP one):=by
 intro l a r e
 unfold listP at e
 obtain ⟨t,q,rfl,_,e⟩:=u1j e
 split at e
 ·cases e
 ·split at e
  ·cases e; simp
  ·obtain ⟨b,q1,e1,e⟩:=u0t e
   obtain ⟨bs,q2,e2,e⟩:=u0t e
   have h1:=h _ _ _ e1
   have h2:=moreP_len h _ _ _ _ e2
   cases e
   simp only [List.length_cons] at *; omega
def u6x (l:List K):Res (List UInt8):=u6d l fun x r=>.ok x r
def u5q (l:List K):Res (List UInt8 × Bool) :=
 match l with
 | []=>.no []
 | t :: r=>if isS u7u t then u6d r fun x q=>.ok (x,true) q else need wInt (t :: r) fun r1=>u6d r1 fun x q=>.ok (x,false) q
theorem u4k:LenO u6x:=fun l a r e=>by
 unfold u6x u6d at e
 split at e
 ·split at e
  ·cases e; simp
  ·cases e
 ·cases e
theorem u4u {β:Type} {l:List K} {f:List UInt8→List K→Res β} {b:β} {q:List K} (h:u6d l f=.ok b q):∃ t r,l=t :: r∧t.1=0∧f t.2.1 r=.ok b q:=by
 unfold u6d at h
 split at h
 ·split at h
  ·rename_i ht; exact ⟨_,_,rfl,by simpa using ht,h⟩
  ·cases h
 ·cases h
theorem needI_ok {β:Type} {l:List K} {f:Int→List K→Res β} {b:β} {q:List K} (h:needI l f=.ok b q):∃ t r,l=t :: r∧t.1=1∧f t.2.2 r=.ok b q:=by
 unfold needI at h
 split at h
 ·split at h
  ·rename_i ht; exact ⟨_,_,rfl,by simpa using ht,h⟩
  ·cases h
 ·cases h
theorem u6h:LenO u5q:=fun l a r e=>by
 unfold u5q at e
 split at e
 ·cases e
 ·split at e
  ·obtain ⟨t1,r1,rfl,_,e⟩:=u4u e
   cases e; simp only [List.length_cons]; omega
  ·obtain ⟨t1,r1,e1,_,e⟩:=u1j e
   cases e1
   obtain ⟨t2,r2,rfl,_,e⟩:=u4u e
   cases e; simp only [List.length_cons]; omega
def u6l:Nat→List K→Res (List (List UInt8 × Int))
 | 0,l=>.no l
 | f+1,l =>
  match l with
  | []=>.ok [] []
  | t :: r =>
   if isS u4e t then u6d r fun x r1=>need [91] r1 fun r2=>needI r2 fun n r3=>need [93] r3 fun r4=>need [59] r4 fun r5=>(u6l f r5).bind fun l r6=>.ok ((x,n) :: l) r6
   else .ok [] (t :: r)
theorem sharedP_len:∀ f l,Short l.length (u6l f l)
 | 0,l=>u5x
 | f+1,l=>by
  unfold u6l
  split
  ·exact u3x (by simp)
  ·split
   ·refine u8o fun x r1 h1=>u1t fun r2 h2=>short_needI fun n r3 h3=>u1t fun r4 h4=>u1t fun r5 h5=>u9h fun a r6 h6=>u3x ?_
    have:=sharedP_len f r5 _ _ h6
    simp only [List.length_cons]; omega
   ·exact u3x (by simp)
theorem cong_needN {β:Type} {l:List K} {f g:List UInt8→List K→Res β} (h:∀ x r,r.length+1=l.length→f x r=g x r):u6d l f=u6d l g:=by
 unfold u6d
 split
 ·split
  ·exact h _ _ (by simp)
  ·rfl
 ·rfl
theorem cong_needI {β:Type} {l:List K} {f g:Int→List K→Res β} (h:∀ x r,r.length+1=l.length→f x r=g x r):needI l f=needI l g:=by
 unfold needI
 split
 ·split
  ·exact h _ _ (by simp)
  ·rfl
 ·rfl
theorem sharedP_stable:∀ f g l,l.length<f→l.length<g→u6l f l=u6l g l
 | 0,_,_,h,_=>absurd h (Nat.not_lt_zero _)
 | _+1,0,_,_,h=>absurd h (Nat.not_lt_zero _)
 | f+1,g+1,l,hf,hg=>by
  unfold u6l
  split
  ·rfl
  ·split
   ·refine cong_needN fun x r1 h1=>u9o fun r2 h2=>cong_needI fun n r3 h3=>u9o fun r4 h4=>u9o fun r5 h5=>?_
    simp only [List.length_cons] at hf hg
    rw [sharedP_stable f g r5 (by omega) (by omega)]
   ·rfl
def itemP (l:List K):Res It :=
 match l with
 | []=>.no []
 | t :: r =>
  if isS u8z t then u6d r fun x r1=>(listP u6x r1).bind fun ps r2=>need [123] r2 fun r3=>(PR r3).bind fun b r4=>.ok (.fn x ps b) r4
  else need u7t (t :: r) fun r1=>u6d r1 fun x r2=>(listP u5q r2).bind fun ps r3=>need [123] r3 fun r4=>(u6l (r4.length+1) r4).bind fun sh r5 =>
   (PR r5).bind fun b r6=>.ok (.ker x ps sh b) r6
theorem itemP_len:LenO itemP:=fun l a r e=>by
 unfold itemP at e
 split at e
 ·cases e
 ·split at e
  ·obtain ⟨t1,r1,rfl,_,e⟩:=u4u e
   obtain ⟨ps,r2,h2,e⟩:=u0t e
   obtain ⟨t3,r3,rfl,_,e⟩:=u1j e
   obtain ⟨b,r4,h4,e⟩:=u0t e
   have h2:=listP_len u4k _ _ _ h2
   have h4:=PR_len _ _ _ h4
   cases e; simp only [List.length_cons] at *; omega
  ·obtain ⟨t1,r1,e1,_,e⟩:=u1j e
   cases e1
   obtain ⟨t2,r2,rfl,_,e⟩:=u4u e
   obtain ⟨ps,r3,h3,e⟩:=u0t e
   obtain ⟨t4,r4,rfl,_,e⟩:=u1j e
   obtain ⟨sh,r5,h5,e⟩:=u0t e
   obtain ⟨b,r6,h6,e⟩:=u0t e
   have h3:=listP_len u6h _ _ _ h3
   have h5:=sharedP_len _ _ _ _ h5
   have h6:=PR_len _ _ _ h6
   cases e; simp only [List.length_cons] at *; omega
def progP:Nat→List K→Res (List It)
 | 0,l=>.no l
 | f+1,l =>
  match l with
  | []=>.ok [] []
  | t :: r=>(itemP (t :: r)).bind fun i q=>(progP f q).bind fun is q2=>.ok (i :: is) q2
theorem progP_stable:∀ f g l,l.length<f→l.length<g→progP f l=progP g l
 | 0,_,_,h,_=>absurd h (Nat.not_lt_zero _)
 | _+1,0,_,_,h=>absurd h (Nat.not_lt_zero _)
 | f+1,g+1,l,hf,hg=>by
  unfold progP
  split
  ·rfl
  ·refine u1v fun i q e=>?_
   have:=itemP_len _ _ _ e
   rw [progP_stable f g q (by omega) (by omega)]
def PP (l:List K):Res (List It):=progP (l.length+1) l
theorem progP_PP {f:Nat} {l:List K} (h:l.length<f):progP f l=PP l:=progP_stable _ _ l h (Nat.lt_succ_self _)
theorem PP_nil:PP []=.ok [] []:=rfl
theorem PP_cons (t:K) (r:List K):PP (t :: r)=(itemP (t :: r)).bind fun i q=>(PP q).bind fun is q2=>.ok (i :: is) q2:=by
 show (itemP (t :: r)).bind (fun i q=>(progP (r.length+1) q).bind fun is q2=>.ok (i :: is) q2)=_
 refine u1v fun i q e=>?_
 have:=itemP_len _ _ _ e
 simp only [List.length_cons] at this
 rw [progP_PP (by omega)]
def u6g (a:List UInt8 × Bool):List K:=[sg (if a.2 then u7u else wInt),(0,a.1,0)]
def u9b (dg:Int→List UInt8) (a:List UInt8 × Int):List K:=[sg u4e,(0,a.1,0),sg [91],(1,dg a.2,a.2),sg [93],sg [59]]
def tI (dg:Int→List UInt8):It→List K
 | .fn x ps b=>sg u8z :: (0,x,0) :: sg [40] :: (u2f (ps.map fun y=>[((0:Int),y,(0:Int))])++sg [41] :: u2i (tSs dg b))
 | .ker x ps sh b=>sg u7t :: (0,x,0) :: sg [40] :: (u2f (ps.map u6g)++sg [41] :: u2i (sh.flatMap (u9b dg)++tSs dg b))
def okI (nm:List UInt8→Bool):It→Bool
 | .fn x ps b=>(nm x&&ps.all nm&&decide (ps.length≤6))&&okSs nm b
 | .ker x ps sh b=>(nm x&&ps.all (fun a=>nm a.1)&&decide (ps.length≤6)&&sh.all (fun a=>nm a.1&&decide (1≤a.2∧a.2≤64))&&decide (sh.length≤4))&&okSs nm b
def Sfx {α:Type} (l:List K) (x:Res α):Prop:=(∀ a r,x=.ok a r→r <:+ l)∧∀ r,x=.no r→r <:+ l
theorem Sfx.mono {α:Type} {l m:List K} {x:Res α} (h:Sfx l x) (hm:l <:+ m):Sfx m x:=⟨fun a r e=>(h.1 a r e).trans hm,fun r e=>(h.2 r e).trans hm⟩
theorem u7l {α:Type} {l r:List K} {a:α} (h:r <:+ l):Sfx l (.ok a r):=⟨fun _ _ e=>(by cases e; exact h),fun _ e=>(by cases e)⟩
theorem u5c {α:Type} {l r:List K} (h:r <:+ l):Sfx l (.no r:Res α):=⟨fun _ _ e=>(by cases e),fun _ e=>(by cases e; exact h)⟩
theorem u2b {α β:Type} {l:List K} {x:Res α} {f:α→List K→Res β} (h:Sfx l x) (hf:∀ a r,Sfx r (f a r)):Sfx l (x.bind f):=by
 cases x with
 | ok a r=>exact (hf a r).mono (h.1 a r rfl)
 | no r=>exact u5c (h.2 r rfl)
theorem u3a (t:K) (r:List K):r <:+ t :: r:=List.suffix_cons t r
theorem u1d {β:Type} {s:List UInt8} {l:List K} {f:List K→Res β} (hf:∀ r,Sfx r (f r)):Sfx l (need s l f):=by
 unfold need
 split
 ·split
  ·exact (hf _).mono (u3a _ _)
  ·exact u5c (List.suffix_refl _)
 ·exact u5c (List.suffix_refl _)
theorem u4i {β:Type} {l:List K} {f:List UInt8→List K→Res β} (hf:∀ x r,Sfx r (f x r)):Sfx l (u6d l f):=by
 unfold u6d
 split
 ·split
  ·exact (hf _ _).mono (u3a _ _)
  ·exact u5c (List.suffix_refl _)
 ·exact u5c (List.suffix_refl _)
theorem sfx_needI {β:Type} {l:List K} {f:Int→List K→Res β} (hf:∀ x r,Sfx r (f x r)):Sfx l (needI l f):=by
 unfold needI
 split
 ·split
  ·exact (hf _ _).mono (u3a _ _)
  ·exact u5c (List.suffix_refl _)
 ·exact u5c (List.suffix_refl _)
theorem sfx_needF {β:Type} {l:List K} {f:Int→List K→Res β} (hf:∀ x r,Sfx r (f x r)):Sfx l (needF l f):=by
 unfold needF
 split
 ·split
  ·exact (hf _ _).mono (u3a _ _)
  ·exact u5c (List.suffix_refl _)
 ·exact u5c (List.suffix_refl _)
theorem step_sfx {p:Rec} (h:∀ c l,Sfx l (p c l)) (c:Cmd) (l:List K):Sfx l (step p c l):=by
 cases c with
 | ex n =>
  simp only [step]
  split
  ·exact h _ _
  ·exact u2b (h _ _) fun a r=>h _ _
 | tail n x =>
  simp only [step]
  split
  ·exact u7l (List.suffix_refl _)
  ·split
   ·exact (u2b (h _ _) fun a r=>h _ _).mono (u3a _ _)
   ·exact u7l (List.suffix_refl _)
 | un =>
  simp only [step]
  split
  ·exact h _ _
  ·split
   ·exact (u2b (h _ _) fun a r=>u7l (List.suffix_refl _)).mono (u3a _ _)
   ·exact h _ _
 | prim =>
  simp only [step]
  split
  ·exact u5c (List.suffix_refl _)
  ·split
   ·exact u7l (u3a _ _)
   ·split
    ·exact (h _ _).mono (u3a _ _)
    ·split
     ·exact (u1d fun r=>u2b (h _ _) fun a r=>u1d fun r=>u2b (h _ _) fun a r=>u1d fun r=>u7l (List.suffix_refl _)).mono (u3a _ _)
     ·split
      ·exact u7l (u3a _ _)
      ·exact u1d fun r=>u2b (h _ _) fun a r=>u1d fun r=>u7l (List.suffix_refl _)
 | named x =>
  simp only [step]
  split
  ·exact u7l (List.suffix_refl _)
  ·split
   ·exact (u2b (h _ _) fun a r=>u1d fun r=>u7l (List.suffix_refl _)).mono (u3a _ _)
   ·split
    ·split
     ·exact (u2b (h _ _) fun a r=>h _ _).mono (u3a _ _)
     ·split
      ·exact u7l ((u3a _ _).trans (u3a _ _))
      ·exact (u2b (h _ _) fun a r=>h _ _).mono (u3a _ _)
    ·exact u7l (List.suffix_refl _)
 | args x kids =>
  simp only [step]
  split
  ·exact u5c (List.suffix_refl _)
  ·split
   ·exact (u2b (h _ _) fun a r=>h _ _).mono (u3a _ _)
   ·split
    ·exact u7l (u3a _ _)
    ·exact u5c (List.suffix_refl _)
theorem go_sfx:∀ f c l,Sfx l (go f c l)
 | 0,_,_=>u5c (List.suffix_refl _)
 | f+1,c,l=>step_sfx (go_sfx f) c l
theorem PE_sfx (c:Cmd) (l:List K):Sfx l (PE c l):=go_sfx _ c l
theorem u3l {β:Type} {l:List K} {f:Ex→List K→Res β} (hf:∀ x r,Sfx r (f x r)):Sfx l (u8r l f):=u2b (PE_sfx _ _) hf
theorem u1w {α:Type} {l:List K} {a:α}:Sfx l (.ok a l):=u7l (List.suffix_refl _)
theorem elseP_sfx {p:Rst} (h:∀ l,Sfx l (p l)) (e:Ex) (b:List St) (l:List K):Sfx l (elseP p e b l):=by
 unfold elseP
 split
 ·exact u1w
 ·split
  ·exact (u1d fun r=>u2b (h _) fun a r=>u1w).mono (u3a _ _)
  ·exact u1w
theorem retP_sfx (l:List K):Sfx l (retP l):=by
 unfold retP
 split
 ·exact u5c (List.suffix_refl _)
 ·split
  ·exact u7l (u3a _ _)
  ·exact u3l fun e r=>u1d fun r=>u1w
theorem namP_sfx (x:List UInt8) (l:List K):Sfx l (namP x l):=by
 unfold namP
 split
 ·exact u5c (List.suffix_refl _)
 ·split
  ·exact (u3l fun e r=>u1d fun r=>u1d fun r=>u3l fun e r=>u1d fun r=>u1w).mono (u3a _ _)
  ·exact u1d fun r=>u3l fun e r=>u1d fun r=>u1w
theorem stmtP_sfx {p:Rst} (h:∀ l,Sfx l (p l)) (t:K) (r:List K):Sfx (t :: r) (stmtP p t r):=by
 unfold stmtP
 split
 ·exact (u3l fun e r=>u1d fun r=>u2b (h _) fun a r=>elseP_sfx h _ _ _).mono (u3a _ _)
 split
 ·exact (u3l fun e r=>u1d fun r=>u2b (h _) fun a r=>u1w).mono (u3a _ _)
 split
 ·exact (u4i fun x r=>u1d fun r=>u3l fun e r=>u1d fun r=>u1w).mono (u3a _ _)
 split
 ·exact (u1d fun r=>u1w).mono (u3a _ _)
 split
 ·exact (u1d fun r=>u1w).mono (u3a _ _)
 split
 ·exact (retP_sfx _).mono (u3a _ _)
 split
 ·exact (u1d fun r=>u1w).mono (u3a _ _)
 split
 ·exact (sfx_needF fun op r=>u4i fun x r=>u1d fun r=>u3l fun e r=>u1d fun r=>u1d fun r=>u3l fun e r=>u1d fun r=>u1w).mono (u3a _ _)
 split
 ·exact (u4i fun x r=>u1d fun r=>sfx_needF fun op r=>u3l fun e r=>u1d fun r=>u1w).mono (u3a _ _)
 ·exact u4i fun x r=>namP_sfx x r
theorem restP_sfx {p:Rst} (h:∀ l,Sfx l (p l)) (l:List K):Sfx l (restP p l):=by
 unfold restP
 split
 ·exact u5c (List.suffix_refl _)
 ·split
  ·exact u7l (u3a _ _)
  ·exact u2b (stmtP_sfx h _ _) fun s q=>u2b (h q) fun ss q2=>u1w
theorem goS_sfx:∀ f l,Sfx l (goS f l)
 | 0,_=>u5c (List.suffix_refl _)
 | f+1,l=>restP_sfx (goS_sfx f) l
theorem PR_sfx (l:List K):Sfx l (PR l):=goS_sfx _ l
theorem stmtP_head {p:Rst} (h:∀ l,Sfx l (p l)) (t:K) (r:List K):Sfx r (stmtP p t r)∨stmtP p t r=.no (t :: r):=by
 unfold stmtP
 split
 ·exact .inl (u3l fun e r=>u1d fun r=>u2b (h _) fun a r=>elseP_sfx h _ _ _)
 split
 ·exact .inl (u3l fun e r=>u1d fun r=>u2b (h _) fun a r=>u1w)
 split
 ·exact .inl (u4i fun x r=>u1d fun r=>u3l fun e r=>u1d fun r=>u1w)
 split
 ·exact .inl (u1d fun r=>u1w)
 split
 ·exact .inl (u1d fun r=>u1w)
 split
 ·exact .inl (retP_sfx _)
 split
 ·exact .inl (u1d fun r=>u1w)
 split
 ·exact .inl (sfx_needF fun op r=>u4i fun x r=>u1d fun r=>u3l fun e r=>u1d fun r=>u1d fun r=>u3l fun e r=>u1d fun r=>u1w)
 split
 ·exact .inl (u4i fun x r=>u1d fun r=>sfx_needF fun op r=>u3l fun e r=>u1d fun r=>u1w)
 ·unfold u6d
  simp only
  split
  ·exact .inl (namP_sfx _ _)
  ·exact .inr rfl
theorem moreP_sfx {α:Type} {one:List K→Res α} (h:∀ l,Sfx l (one l)):∀ f l,Sfx l (moreP one f l)
 | 0,_=>u5c (List.suffix_refl _)
 | f+1,l=>by
  unfold moreP
  split
  ·exact u5c (List.suffix_refl _)
  ·split
   ·exact (u2b (h _) fun a q=>u2b (moreP_sfx h f q) fun as q2=>u1w).mono (u3a _ _)
   ·split
    ·exact u7l (u3a _ _)
    ·exact u5c (List.suffix_refl _)
theorem listP_sfx {α:Type} {one:List K→Res α} (h:∀ l,Sfx l (one l)) (l:List K):Sfx l (listP one l):=by
 unfold listP
 refine u1d fun r=>?_
 split
 ·exact u5c (List.suffix_refl _)
 ·split
  ·exact u7l (u3a _ _)
  ·exact u2b (h _) fun a q=>u2b (moreP_sfx h _ q) fun as q2=>u1w
theorem nameO_sfx (l:List K):Sfx l (u6x l):=u4i fun _ _=>u1w
theorem paramO_sfx (l:List K):Sfx l (u5q l):=by
 unfold u5q
 split
 ·exact u5c (List.suffix_refl _)
 ·split
  ·exact (u4i fun x r=>u1w).mono (u3a _ _)
  ·exact u1d fun r=>u4i fun x r=>u1w
theorem sharedP_sfx:∀ f l,Sfx l (u6l f l)
 | 0,_=>u5c (List.suffix_refl _)
 | f+1,l=>by
  unfold u6l
  split
  ·exact u1w
  ·split
   ·exact (u4i fun x r=>u1d fun r=>sfx_needI fun n r=>u1d fun r=>u1d fun r=>u2b (sharedP_sfx f r) fun a r=>u1w).mono (u3a _ _)
   ·exact u1w
def fnP (r:List K):Res It:=u6d r fun x r1=>(listP u6x r1).bind fun ps r2=>need [123] r2 fun r3=>(PR r3).bind fun b r4=>.ok (.fn x ps b) r4
def kerP (r:List K):Res It:=u6d r fun x r2=>(listP u5q r2).bind fun ps r3=>need [123] r3 fun r4=>(u6l (r4.length+1) r4).bind fun sh r5 =>
 (PR r5).bind fun b r6=>.ok (.ker x ps sh b) r6
theorem itemP_cons (t:K) (r:List K):itemP (t :: r)=if isS u8z t then fnP r else need u7t (t :: r) kerP:=rfl
theorem fnP_sfx (l:List K):Sfx l (fnP l):=u4i fun _ r=>u2b (listP_sfx nameO_sfx r) fun _ _=>u1d fun r=>u2b (PR_sfx r) fun _ _=>u1w
theorem kerP_sfx (l:List K):Sfx l (kerP l):=u4i fun _ r=>u2b (listP_sfx paramO_sfx r) fun _ _=>u1d fun r=>u2b (sharedP_sfx _ r) fun _ r=>u2b (PR_sfx r) fun _ _=>u1w
theorem itemP_sfx (l:List K):Sfx l (itemP l):=by
 cases l with
 | nil=>exact u5c (List.suffix_refl _)
 | cons t r =>
  rw [itemP_cons]
  split
  ·exact (fnP_sfx r).mono (u3a _ _)
  ·exact u1d kerP_sfx
theorem tail_stop {n:Nat} {a:Ex} {q:List K} (h:∀ t r,q=t :: r→opOf n t=none):PE (.tail n a) q=.ok a q:=by
 rw [u6z]
 cases q with
 | nil=>rfl
 | cons t r=>simp only [step,h t r rfl]
end Go.Proofs.YtbkhnilbgocpnaaGreatDoor.SynC
namespace Go.Proofs.YtbkhnilbgocpnaaGreatDoor.SynC
open Go.Proofs.YtbkhnilbgocpnaaGreatDoor.LexC
def nmL:List UInt8→Bool
 | []=>false
 | c :: r=>letB c&&(c :: r).all innB&&decide ((c :: r).length≤16)&&!u5r (c :: r)
def digL (n:Nat):List UInt8:=if h:n<10 then [UInt8.ofNat (48+n)] else digL (n / 10)++[UInt8.ofNat (48+n % 10)]
termination_by n
decreasing_by omega
theorem dig_byte {n:Nat} (h:n<10):(UInt8.ofNat (48+n)).toNat=48+n:=by
 rw [UInt8.toNat_ofNat']; omega
def dgL (i:Int):List UInt8:=digL i.natAbs
def txt (l:List K):List UInt8:=u7g (l.map (·.2.1))
end Go.Proofs.YtbkhnilbgocpnaaGreatDoor.SynC
namespace Go.Proofs.YtbkhnilbgocpnaaGreatDoor.SynC
structure Ms where
 parts:Int
 depth:Int
 right:Bool
mutual
def u4d:Ex→Int
 | .mk _ _ _ _ kids=>1+u0s kids
def u0s:List Ex→Int
 | []=>0
 | e :: r=>u4d e+u0s r
end
mutual
def u6i:Ex→Int
 | .mk _ _ _ _ kids=>1+u1u kids
def u1u:List Ex→Int
 | []=>0
 | e :: r=>max (u6i e) (u1u r)
end
mutual
def mE (nm:List UInt8→Bool) (m:Ms) (below:Int):Ex→Ms × Int
 | .mk kind op num name kids =>
  if m.right=false∨400<m.parts+1∨12<below∨u1h nm kind op num name kids.length=false then (⟨m.parts+1,m.depth,false⟩,0)
  else ({ (mEs nm ⟨m.parts+1,m.depth,true⟩ (below+1) 0 kids).1 with depth:=max (mEs nm ⟨m.parts+1,m.depth,true⟩ (below+1) 0 kids).1.depth ((mEs nm ⟨m.parts+1,m.depth,true⟩ (below+1) 0 kids).2+1) },
   (mEs nm ⟨m.parts+1,m.depth,true⟩ (below+1) 0 kids).2+1)
def mEs (nm:List UInt8→Bool) (m:Ms) (below d:Int):List Ex→Ms × Int
 | []=>(m,d)
 | e :: r=>mEs nm (mE nm m below e).1 below (max d (mE nm m below e).2) r
end
mutual
theorem partsE_pos:(e:Ex)→1≤u4d e
 | .mk _ _ _ _ kids=>by rw [u4d]; have:=u2m kids; omega
theorem u2m:(l:List Ex)→0≤u0s l
 | []=>by rw [u0s]; omega
 | e :: r=>by rw [u0s]; have:=partsE_pos e; have:=u2m r; omega
end
mutual
theorem depthE_pos:(e:Ex)→1≤u6i e
 | .mk _ _ _ _ kids=>by rw [u6i]; have:=u5i kids; omega
theorem u5i:(l:List Ex)→0≤u1u l
 | []=>by rw [u1u]; omega
 | e :: r=>by rw [u1u]; have:=depthE_pos e; omega
end
mutual
theorem mE_right (nm:List UInt8→Bool):(e:Ex)→∀ (m:Ms) (below:Int),m.right=true→0≤m.depth→okE nm e=true→m.parts+u4d e≤400→below+u6i e≤13 →
  mE nm m below e=(⟨m.parts+u4d e,max m.depth (u6i e),true⟩,u6i e)
 | .mk kind op num name kids,m,below,hr,hz,ho,hp,hd=>by
  rw [okE,Bool.and_eq_true] at ho
  rw [u4d] at hp
  rw [u6i] at hd
  have h1:=u2m kids
  have h2:=u5i kids
  have hk:=mEs_right nm kids ⟨m.parts+1,m.depth,true⟩ (below+1) 0 rfl hz (Int.le_refl _) ho.2 (by show m.parts+1+_≤_; omega) (by omega)
  rw [mE,if_neg (by rw [hr,ho.1]; simp; omega),hk,u4d,u6i]
  simp only [Prod.mk.injEq,Ms.mk.injEq,and_true]
  refine ⟨⟨by omega,by omega⟩,by omega⟩
theorem mEs_right (nm:List UInt8→Bool):(l:List Ex)→∀ (m:Ms) (below d:Int),m.right=true→0≤m.depth→0≤d→okEs nm l=true→m.parts+u0s l≤400→below+u1u l≤13 →
  mEs nm m below d l=(⟨m.parts+u0s l,max m.depth (u1u l),true⟩,max d (u1u l))
 | [],m,below,d,hr,hz,h0,_,_,_=>by
  rw [mEs,u0s,u1u]
  obtain ⟨p,q,r⟩:=m
  simp only at hr hz
  subst hr
  simp only [Prod.mk.injEq,Ms.mk.injEq,and_true]
  refine ⟨⟨by omega,by omega⟩,by omega⟩
 | e :: r,m,below,d,hr,hz,h0,ho,hp,hd=>by
  rw [okEs,Bool.and_eq_true] at ho
  rw [u0s] at hp
  rw [u1u] at hd
  have h1:=u2m r
  rw [mEs,mE_right nm e m below hr hz ho.1 (by omega) (by omega),mEs_right nm r _ below _ rfl (by show (0:Int)≤max _ _; omega) (by omega) ho.2 (by show m.parts+_+_≤_; omega) (by omega),u0s,u1u]
  simp only [Prod.mk.injEq,Ms.mk.injEq,and_true]
  refine ⟨⟨by omega,by omega⟩,by omega⟩
end
mutual
theorem mE_false (nm:List UInt8→Bool):(e:Ex)→∀ (m:Ms) (below:Int),m.right=false→(mE nm m below e).1.right=false
 | .mk kind op num name kids,m,below,hr=>by rw [mE,if_pos (.inl hr)]
theorem mEs_false (nm:List UInt8→Bool):(l:List Ex)→∀ (m:Ms) (below d:Int),m.right=false→(mEs nm m below d l).1.right=false
 | [],m,below,d,hr=>by rw [mEs]; exact hr
 | e :: r,m,below,d,hr=>by rw [mEs]; exact mEs_false nm r _ below _ (mE_false nm e m below hr)
end
mutual
theorem mE_wrong (nm:List UInt8→Bool):(e:Ex)→∀ (m:Ms) (below:Int),m.right=true→0≤m.depth→¬ (okE nm e=true∧m.parts+u4d e≤400∧below+u6i e≤13)→(mE nm m below e).1.right=false
 | .mk kind op num name kids,m,below,hr,hz,h=>by
  rw [mE]
  split
  ·rfl
  ·rename_i hc
   rw [hr] at hc
   simp only [Bool.true_eq_false,false_or,not_or,Bool.not_eq_false] at hc
   refine mEs_wrong nm kids ⟨m.parts+1,m.depth,true⟩ (below+1) 0 rfl hz (Int.le_refl _) (by show m.parts+1≤400; omega) (by omega) fun hk=>h ?_
   obtain ⟨h1,h2,h3⟩:=hk
   rw [okE,u4d,u6i,hc.2.2,h1]
   have h2':m.parts+1+u0s kids≤400:=h2
   exact ⟨rfl,by omega,by omega⟩
theorem mEs_wrong (nm:List UInt8→Bool):(l:List Ex)→∀ (m:Ms) (below d:Int),m.right=true→0≤m.depth→0≤d→m.parts≤400→below≤13 →
  ¬ (okEs nm l=true∧m.parts+u0s l≤400∧below+u1u l≤13)→(mEs nm m below d l).1.right=false
 | [],m,below,d,_,_,_,hp,hb,h=>(h (by rw [okEs,u0s,u1u]; exact ⟨rfl,by omega,by omega⟩)).elim
 | e :: r,m,below,d,hr,hz,h0,hp,hb,h=>by
  rw [mEs]
  by_cases he:okE nm e=true∧m.parts+u4d e≤400∧below+u6i e≤13
  ·have:=depthE_pos e
   rw [mE_right nm e m below hr hz he.1 he.2.1 he.2.2]
   refine mEs_wrong nm r _ below _ rfl (by show (0:Int)≤max _ _; omega) (by omega) he.2.1 hb fun hk=>h ?_
   obtain ⟨h1,h2,h3⟩:=hk
   have h2':m.parts+u4d e+u0s r≤400:=h2
   rw [okEs,u0s,u1u,he.1,h1]
   exact ⟨rfl,by omega,by omega⟩
  ·exact mEs_false nm r _ below _ (mE_wrong nm e m below hr hz he)
end
theorem u5d (nm:List UInt8→Bool):∀ l:List Ex,okEs nm l=l.all (okE nm)
 | []=>by rw [okEs]; rfl
 | e :: r=>by rw [okEs,u5d nm r]; rfl
mutual
def u3y:St→Int
 | .mk _ _ _ exprs body els=>1+u0s exprs+u0r body+u0r els
def u0r:List St→Int
 | []=>0
 | s :: r=>u3y s+u0r r
end
mutual
def u6t:St→Int
 | .mk _ _ _ _ body els=>1+max (u1o body) (u1o els)
def u1o:List St→Int
 | []=>0
 | s :: r=>max (u6t s) (u1o r)
end
mutual
def exdS:St→Int
 | .mk _ _ _ exprs body els=>max (u1u exprs) (max (u3s body) (u3s els))
def u3s:List St→Int
 | []=>0
 | s :: r=>max (exdS s) (u3s r)
end
def badS (nm:List UInt8→Bool) (m:Ms) (below:Int):St→Bool
 | .mk kind op name exprs body els=>decide (400<m.parts+1) || decide (12<below) || !u0u nm kind op name exprs.length body.isEmpty els.isEmpty
mutual
def mS (nm:List UInt8→Bool) (m:Ms) (below:Int):St→Ms × Int
 | .mk _ _ _ exprs body els =>
  let b:=mSs nm (mEs nm ⟨m.parts+1,m.depth,true⟩ 1 0 exprs).1 (below+1) 0 body
  let c:=mSs nm b.1 (below+1) 0 els
  ({ c.1 with depth:=max c.1.depth (1+max b.2 c.2) },1+max b.2 c.2)
def mSs (nm:List UInt8→Bool) (m:Ms) (below out:Int):List St→Ms × Int
 | []=>(m,out)
 | s :: r=>if m.right=false then (m,out) else if badS nm m below s then (⟨m.parts+1,m.depth,false⟩,0) else mSs nm (mS nm m below s).1 below (max out (mS nm m below s).2) r
end
mutual
theorem partsS_pos:(s:St)→1≤u3y s
 | .mk _ _ _ exprs body els=>by rw [u3y]; have:=u2m exprs; have:=u1q body; have:=u1q els; omega
theorem u1q:(l:List St)→0≤u0r l
 | []=>by rw [u0r]; omega
 | s :: r=>by rw [u0r]; have:=partsS_pos s; have:=u1q r; omega
end
mutual
theorem depthS_pos:(s:St)→1≤u6t s
 | .mk _ _ _ _ body els=>by rw [u6t]; have:=u3k body; have:=u3k els; omega
theorem u3k:(l:List St)→0≤u1o l
 | []=>by rw [u1o]; omega
 | s :: r=>by rw [u1o]; have:=depthS_pos s; have:=u3k r; omega
end
mutual
theorem exdS_pos:(s:St)→0≤exdS s
 | .mk _ _ _ exprs body els=>by rw [exdS]; have:=u5i exprs; have:=u5v body; have:=u5v els; omega
theorem u5v:(l:List St)→0≤u3s l
 | []=>by rw [u3s]; omega
 | s :: r=>by rw [u3s]; have:=exdS_pos s; have:=u5v r; omega
end
theorem depth_mix (m e b xb c xc:Int) (hb:0≤b) (hc:0≤c) :
  max (max (max (max m e) (max b xb)) (max c xc)) (1+max (max 0 b) (max 0 c))=max m (max (1+max b c) (max e (max xb xc))):=by
 have h1:max 0 b=b:=by omega
 have h2:max 0 c=c:=by omega
 rw [h1,h2]
 generalize hd:max b c=d
 have h3:b≤d:=by omega
 have h4:c≤d:=by omega
 apply Int.le_antisymm
 ·refine Int.max_le.2 ⟨Int.max_le.2 ⟨Int.max_le.2 ⟨Int.max_le.2 ⟨?_,?_⟩,Int.max_le.2 ⟨?_,?_⟩⟩,Int.max_le.2 ⟨?_,?_⟩⟩,?_⟩ <;> clear hd h1 h2 <;> omega
 ·refine Int.max_le.2 ⟨?_,Int.max_le.2 ⟨?_,Int.max_le.2 ⟨?_,Int.max_le.2 ⟨?_,?_⟩⟩⟩⟩ <;> clear hd h1 h2 <;> omega
mutual
theorem mS_right (nm:List UInt8→Bool):(s:St)→∀ (m:Ms) (below:Int),m.right=true→0≤m.depth→okS nm s=true→m.parts+u3y s≤400→below+u6t s≤13→exdS s≤12 →
  mS nm m below s=(⟨m.parts+u3y s,max m.depth (max (u6t s) (exdS s)),true⟩,u6t s)∧badS nm m below s=false
 | .mk kind op name exprs body els,m,below,hr,hz,ho,hp,hd,hx=>by
  rw [okS] at ho
  simp only [Bool.and_eq_true] at ho
  obtain ⟨⟨⟨hs,he⟩,hb⟩,hc⟩:=ho
  rw [u3y] at hp
  rw [u6t] at hd
  rw [exdS] at hx
  have p0:=u2m exprs
  have p1:=u1q body
  have p2:=u1q els
  have d0:=u5i exprs
  have d1:=u3k body
  have d2:=u3k els
  have x1:=u5v body
  have x2:=u5v els
  constructor
  ·rw [mS]
   simp only
   rw [mEs_right nm exprs ⟨m.parts+1,m.depth,true⟩ 1 0 rfl hz (Int.le_refl _) (by rw [u5d]; exact he) (by show m.parts+1+_≤_; omega) (by omega)]
   simp only
   generalize e1:max m.depth (u1u exprs)=D1
   rw [u9l nm body ⟨m.parts+1+u0s exprs,D1,true⟩ (below+1) 0 rfl (by show 0≤D1; omega) (Int.le_refl _) hb (by show m.parts+1+u0s exprs+_≤_; omega) (by omega) (by omega)]
   simp only
   generalize e2:max D1 (max (u1o body) (u3s body))=D2
   rw [u9l nm els ⟨m.parts+1+u0s exprs+u0r body,D2,true⟩ (below+1) 0 rfl (by show 0≤D2; omega) (Int.le_refl _) hc (by show m.parts+1+u0s exprs+u0r body+_≤_; omega) (by omega) (by omega)]
   subst e2
   subst e1
   simp only [u3y,u6t,exdS,Prod.mk.injEq,Ms.mk.injEq,and_true]
   refine ⟨⟨by omega,depth_mix _ _ _ _ _ _ d1 d2⟩,by omega⟩
  ·rw [badS,hs]; simp; omega
theorem u9l (nm:List UInt8→Bool):(l:List St)→∀ (m:Ms) (below out:Int),m.right=true→0≤m.depth→0≤out→okSs nm l=true→m.parts+u0r l≤400→below+u1o l≤13→u3s l≤12 →
  mSs nm m below out l=(⟨m.parts+u0r l,max m.depth (max (u1o l) (u3s l)),true⟩,max out (u1o l))
 | [],m,below,out,hr,hz,h0,_,_,_,_=>by
  rw [mSs,u0r,u1o,u3s]
  obtain ⟨p,q,r⟩:=m
  simp only at hr hz
  subst hr
  simp only [Prod.mk.injEq,Ms.mk.injEq,and_true]
  refine ⟨⟨by omega,by omega⟩,by omega⟩
 | s :: r,m,below,out,hr,hz,h0,ho,hp,hd,hx=>by
  rw [okSs,Bool.and_eq_true] at ho
  rw [u0r] at hp
  rw [u1o] at hd
  rw [u3s] at hx
  have h1:=u1q r
  obtain ⟨e1,e2⟩:=mS_right nm s m below hr hz ho.1 (by omega) (by omega) (by omega)
  rw [mSs,if_neg (by rw [hr]; simp),if_neg (by rw [e2]; simp),e1]
  simp only
  have h2:=depthS_pos s
  have h3:=exdS_pos s
  generalize e3:max m.depth (max (u6t s) (exdS s))=D1
  rw [u9l nm r ⟨m.parts+u3y s,D1,true⟩ below _ rfl (by show 0≤D1; omega) (by omega) ho.2 (by show m.parts+u3y s+_≤_; omega) (by omega) (by omega),u0r,u1o,u3s]
  simp only [Prod.mk.injEq,Ms.mk.injEq,and_true]
  refine ⟨⟨by omega,by omega⟩,by omega⟩
end
theorem mSs_false (nm:List UInt8→Bool) (l:List St) (m:Ms) (below out:Int) (h:m.right=false):(mSs nm m below out l).1.right=false:=by
 cases l with
 | nil=>rw [mSs]; exact h
 | cons s r=>rw [mSs,if_pos h]; exact h
def FitS (nm:List UInt8→Bool) (p below:Int) (s:St):Prop:=okS nm s=true∧p+u3y s≤400∧below+u6t s≤13∧exdS s≤12
def FitSs (nm:List UInt8→Bool) (p below:Int) (l:List St):Prop:=okSs nm l=true∧p+u0r l≤400∧below+u1o l≤13∧u3s l≤12
mutual
theorem mS_wrong (nm:List UInt8→Bool):(s:St)→∀ (m:Ms) (below:Int),m.right=true→0≤m.depth→badS nm m below s=false→¬ FitS nm m.parts below s→(mS nm m below s).1.right=false
 | .mk kind op name exprs body els,m,below,hr,hz,hb,h=>by
  simp only [badS,Bool.or_eq_false_iff,decide_eq_false_iff_not,Bool.not_eq_false'] at hb
  obtain ⟨⟨b1,b2⟩,hs⟩:=hb
  rw [mS]
  simp only
  by_cases he:okEs nm exprs=true∧m.parts+1+u0s exprs≤400∧1+u1u exprs≤13
  ·rw [mEs_right nm exprs ⟨m.parts+1,m.depth,true⟩ 1 0 rfl hz (Int.le_refl _) he.1 he.2.1 he.2.2]
   simp only
   by_cases h1:FitSs nm (m.parts+1+u0s exprs) (below+1) body
   ·have d1:=u3k body
    have x1:=u5v body
    have z0:(0:Int)≤max m.depth (u1u exprs):=by omega
    rw [u9l nm body ⟨m.parts+1+u0s exprs,_,true⟩ (below+1) 0 rfl z0 (Int.le_refl _) h1.1 h1.2.1 h1.2.2.1 h1.2.2.2]
    simp only
    by_cases h2:FitSs nm (m.parts+1+u0s exprs+u0r body) (below+1) els
    ·refine (h ⟨?_,?_,?_,?_⟩).elim
     ·rw [okS,hs,← u5d,he.1,h1.1,h2.1]; rfl
     ·have:=h2.2.1; rw [u3y]; omega
     ·have:=h1.2.2.1; have:=h2.2.2.1; rw [u6t]; omega
     ·have:=h1.2.2.2; have:=h2.2.2.2; have:=he.2.2; rw [exdS]; omega
    ·exact mSs_wrong nm els _ (below+1) 0 rfl (by show (0:Int)≤max _ _; omega) (Int.le_refl _) h1.2.1 (by omega) h2
   ·exact mSs_false nm els _ _ _ (mSs_wrong nm body _ (below+1) 0 rfl (by show (0:Int)≤max _ _; omega) (Int.le_refl _) he.2.1 (by omega) h1)
  ·have:=mEs_wrong nm exprs ⟨m.parts+1,m.depth,true⟩ 1 0 rfl hz (Int.le_refl _) (by show m.parts+1≤400; omega) (by omega) he
   exact mSs_false nm els _ _ _ (mSs_false nm body _ _ _ this)
theorem mSs_wrong (nm:List UInt8→Bool):(l:List St)→∀ (m:Ms) (below out:Int),m.right=true→0≤m.depth→0≤out→m.parts≤400→below≤13→¬ FitSs nm m.parts below l →
  (mSs nm m below out l).1.right=false
 | [],m,below,out,_,_,_,hp,hb,h=>(h (by unfold FitSs; rw [okSs,u0r,u1o,u3s]; exact ⟨rfl,by omega,by omega,by omega⟩)).elim
 | s :: r,m,below,out,hr,hz,h0,hp,hb,h=>by
  rw [mSs,if_neg (by rw [hr]; simp)]
  split
  ·rfl
  ·rename_i hbad
   by_cases hs:FitS nm m.parts below s
   ·obtain ⟨e1,-⟩:=mS_right nm s m below hr hz hs.1 hs.2.1 hs.2.2.1 hs.2.2.2
    have:=depthS_pos s
    rw [e1]
    refine mSs_wrong nm r _ below _ rfl (by show (0:Int)≤max _ _; omega) (by show (0:Int)≤max _ _; omega) hs.2.1 hb fun hk=>h ?_
    obtain ⟨k1,k2,k3,k4⟩:=hk
    obtain ⟨s1,s2,s3,s4⟩:=hs
    have k2':m.parts+u3y s+u0r r≤400:=k2
    unfold FitSs
    rw [okSs,u0r,u1o,u3s,s1,k1]
    exact ⟨rfl,by omega,by omega,by omega⟩
   ·exact mSs_false nm r _ below _ (mS_wrong nm s m below hr hz (by simpa using hbad) hs)
end
end Go.Proofs.YtbkhnilbgocpnaaGreatDoor.SynC
namespace Go.Proofs.YtbkhnilbgocpnaaGreatDoor.SynC
open Go.Proofs.YtbkhnilbgocpnaaGreatDoor.LexC
def pre (l:List K):List UInt8:=l.flatMap fun k=>32 :: k.2.1
theorem u7w:pre []=[]:=rfl
theorem u0v (k:K) (l:List K):pre (k :: l)=32 :: (k.2.1++pre l):=rfl
theorem u1n (l m:List K):pre (l++m)=pre l++pre m:=by unfold pre; rw [List.flatMap_append]
theorem pre_txt:∀ (k:K) (l:List K),pre (k :: l)=32 :: txt (k :: l)
 | k,[]=>by simp [pre,txt,u7g]
 | k,m :: l=>by
  rw [u0v,pre_txt m l]
  show 32 :: (k.2.1++32 :: u7g ((m :: l).map (·.2.1)))=32 :: u7g (k.2.1 :: (m :: l).map (·.2.1))
  rw [joinL_cons k.2.1 ((m :: l).map (·.2.1)) (by simp)]
theorem txt_drop (l:List K):txt l=(pre l).drop 1:=by
 cases l with
 | nil=>rfl
 | cons k l=>rw [pre_txt]; rfl
def u1c:List (List UInt8)→List UInt8
 | []=>[]
 | t :: r=>32 :: (t++r.flatMap fun u=>32 :: 44 :: 32 :: u)
theorem pre_more {α:Type} {w:α→List K} {g:α→List UInt8}:∀ l:List α,(∀ a∈l,pre (w a)=32 :: g a) →
  pre ((l.map w).flatMap fun u=>sg [44] :: u)=(l.map g).flatMap fun u=>32 :: 44 :: 32 :: u
 | [],_=>rfl
 | a :: l,h=>by
  rw [List.map_cons,List.map_cons,List.flatMap_cons,List.flatMap_cons,List.cons_append,u0v,u1n,h a (by simp),pre_more l fun b hb=>h b (by simp [hb])]
  rfl
theorem pre_commas {α:Type} {w:α→List K} {g:α→List UInt8} (l:List α) (h:∀ a∈l,pre (w a)=32 :: g a):pre (u2f (l.map w))=u1c (l.map g):=by
 cases l with
 | nil=>rfl
 | cons a l =>
  rw [List.map_cons,List.map_cons,u2f,u1n,h a (by simp),pre_more l fun b hb=>h b (by simp [hb])]; rfl
def u9e (kind op num:Int) (name:List UInt8) (ks:List (List UInt8)):List UInt8 :=
 if kind=0 then dgL num
 else if kind=2 then spText op
 else if kind=3 then u7y op++32 :: ks.getD 0 []
 else if kind=4 then
  if op=18∨op=19 then u5h op++32 :: 40 :: (u1c ks++[32,41])
  else 40 :: 32 :: (ks.getD 0 []++32 :: (u5h op++32 :: (ks.getD 1 []++[32,41])))
 else if kind=5 then name++32 :: 91 :: 32 :: (ks.getD 0 []++[32,93])
 else if kind=6 then name++32 :: 40 :: (u1c ks++[32,41])
 else name
mutual
def gE:Ex→List UInt8
 | .mk kind op num name kids=>u9e kind op num name (gEs kids)
def gEs:List Ex→List (List UInt8)
 | []=>[]
 | e :: r=>gE e :: gEs r
end
theorem gEs_map:∀ l:List Ex,gEs l=l.map gE
 | []=>by rw [gEs]; rfl
 | e :: r=>by rw [gEs,gEs_map r]; rfl
theorem body_pre {nm:List UInt8→Bool} {kind op num:Int} {name:List UInt8} {kids:List Ex} (hs:u1h nm kind op num name kids.length=true)
  (h:∀ e∈kids,pre (tE dgL e)=32 :: gE e):pre (u4v dgL kind op num name (kids.map (tE dgL)))=32 :: u9e kind op num name (kids.map gE):=by
 unfold u1h at hs
 unfold u4v u9e
 by_cases k0:kind=0
 ·rw [if_pos k0,if_pos k0]; simp [pre]
 rw [if_neg k0] at hs
 rw [if_neg k0,if_neg k0]
 by_cases k1:kind=1
 ·subst k1; simp [pre]
 rw [if_neg k1] at hs
 by_cases k2:kind=2
 ·rw [if_pos k2,if_pos k2]; simp [pre,sg]
 rw [if_neg k2] at hs
 rw [if_neg k2,if_neg k2]
 by_cases k3:kind=3
 ·rw [if_pos k3] at hs
  rw [if_pos k3,if_pos k3]
  simp only [Bool.and_eq_true,beq_iff_eq] at hs
  obtain ⟨a,rfl⟩:=List.length_eq_one_iff.1 hs.2
  have ha:=h a (by simp)
  show pre (sg (u7y op) :: tE dgL a)=32 :: (u7y op++32 :: gE a)
  rw [u0v,ha]; rfl
 rw [if_neg k3] at hs
 rw [if_neg k3,if_neg k3]
 by_cases k4:kind=4
 ·rw [if_pos k4] at hs
  rw [if_pos k4,if_pos k4]
  simp only [Bool.and_eq_true,beq_iff_eq] at hs
  obtain ⟨a,b,rfl⟩:=two_kids hs.2
  have ha:=h a (by simp)
  have hb:=h b (by simp)
  by_cases hm:op=18∨op=19
  ·rw [if_pos hm,if_pos hm]
   show pre (sg (u5h op) :: sg [40] :: (tE dgL a++sg [44] :: (tE dgL b++[sg [41]])))=32 :: (u5h op++32 :: 40 :: (u1c [gE a,gE b]++[32,41]))
   rw [u0v,u0v,u1n,ha,u0v,u1n,hb,u0v,u7w]
   simp [sg,u1c]
  ·rw [if_neg hm,if_neg hm]
   show pre (sg [40] :: (tE dgL a++sg (u5h op) :: (tE dgL b++[sg [41]])))=32 :: 40 :: 32 :: (gE a++32 :: (u5h op++32 :: (gE b++[32,41])))
   rw [u0v,u1n,ha,u0v,u1n,hb,u0v,u7w]
   simp [sg]
 rw [if_neg k4] at hs
 rw [if_neg k4,if_neg k4]
 by_cases k5:kind=5
 ·rw [if_pos k5] at hs
  rw [if_pos k5,if_pos k5]
  simp only [Bool.and_eq_true,beq_iff_eq] at hs
  obtain ⟨a,rfl⟩:=List.length_eq_one_iff.1 hs.2
  have ha:=h a (by simp)
  show pre ((0,name,0) :: sg [91] :: (tE dgL a++[sg [93]]))=32 :: (name++32 :: 91 :: 32 :: (gE a++[32,93]))
  rw [u0v,u0v,u1n,ha,u0v,u7w]
  simp [sg]
 rw [if_neg k5] at hs
 rw [if_neg k5,if_neg k5]
 by_cases k6:kind=6
 ·rw [if_pos k6,if_pos k6,u0v,u0v,u1n,pre_commas kids h,u0v,u7w]
  simp [sg]
 rw [if_neg k6] at hs
 cases hs
mutual
theorem gE_pre (nm:List UInt8→Bool):(e:Ex)→okE nm e=true→pre (tE dgL e)=32 :: gE e
 | .mk kind op num name kids,h=>by
  rw [okE,Bool.and_eq_true] at h
  rw [tE,gE,tEs_map,gEs_map]
  exact body_pre h.1 (gEs_pre nm kids h.2)
theorem gEs_pre (nm:List UInt8→Bool):(l:List Ex)→okEs nm l=true→∀ e∈l,pre (tE dgL e)=32 :: gE e
 | [],_=>fun e h=>by cases h
 | e :: r,h=>by
  rw [okEs,Bool.and_eq_true] at h
  intro x hx
  rcases List.mem_cons.1 hx with hx | hx
  ·exact hx ▸ gE_pre nm e h.1
  ·exact gEs_pre nm r h.2 x hx
end
def u8u (b:List UInt8):List UInt8:=32 :: 123 :: (b++[32,125])
def stG (kind op:Int) (name:List UInt8) (es:List (List UInt8)) (b c:List UInt8) (ne:Bool):List UInt8 :=
 if kind=0 then wLet++32 :: (name++32 :: 61 :: 32 :: (es.getD 0 []++[32,59]))
 else if kind=1 then name++32 :: 61 :: 32 :: (es.getD 0 []++[32,59])
 else if kind=2 then name++32 :: 91 :: 32 :: (es.getD 0 []++32 :: 93 :: 32 :: 61 :: 32 :: (es.getD 1 []++[32,59]))
 else if kind=3 then wIf++32 :: (es.getD 0 []++(u8u b++if ne then [] else 32 :: (wElse++u8u c)))
 else if kind=4 then u5u++32 :: (es.getD 0 []++u8u b)
 else if kind=5 then u6k++[32,59]
 else if kind=6 then u2y++[32,59]
 else if kind=7 then u3i++((if es.isEmpty then [] else 32 :: es.getD 0 [])++[32,59])
 else if kind=9 then u4z++32 :: (u2x op++32 :: (name++32 :: 91 :: 32 :: (es.getD 0 []++32 :: 93 :: 32 :: 44 :: 32 :: (es.getD 1 []++[32,59]))))
 else if kind=10 then u3u++32 :: (name++32 :: 61 :: 32 :: (u2x op++32 :: (es.getD 0 []++[32,59])))
 else u4s++[32,59]
mutual
def gS:St→List UInt8
 | .mk kind op name exprs body els=>stG kind op name (exprs.map gE) (gSs body) (gSs els) els.isEmpty
def gSs:List St→List UInt8
 | []=>[]
 | s :: r=>32 :: (gS s++gSs r)
end
theorem brace_pre {b:List K} {g:List UInt8} (h:pre b=g):pre (u2i b)=u8u g:=by
 unfold u2i u8u
 rw [u0v,u1n,h,u0v,u7w]; rfl
theorem st_pre {nm:List UInt8→Bool} {kind op:Int} {name:List UInt8} {exprs:List Ex} {nb ne:Bool} (hs:u0u nm kind op name exprs.length nb ne=true)
  (h:∀ e∈exprs,pre (tE dgL e)=32 :: gE e) {b c:List K} {gb gc:List UInt8} (hb:pre b=gb) (hc:pre c=gc) (ne':Bool) :
  pre (stT kind op name (exprs.map (tE dgL)) b c ne')=32 :: stG kind op name (exprs.map gE) gb gc ne':=by
 unfold u0u at hs
 unfold stT stG
 have one:exprs.length=1→∃ a,exprs=[a]∧pre (tE dgL a)=32 :: gE a:=fun e=>by
  obtain ⟨a,rfl⟩:=List.length_eq_one_iff.1 e; exact ⟨a,rfl,h a (by simp)⟩
 have two:exprs.length=2→∃ a b,exprs=[a,b]∧pre (tE dgL a)=32 :: gE a∧pre (tE dgL b)=32 :: gE b:=fun e=>by
  obtain ⟨a,b,rfl⟩:=two_kids e; exact ⟨a,b,rfl,h a (by simp),h b (by simp)⟩
 by_cases k0:kind=0
 ·rw [if_pos (.inl k0)] at hs; rw [if_pos k0,if_pos k0]
  simp only [Bool.and_eq_true,beq_iff_eq] at hs
  obtain ⟨a,rfl,ha⟩:=one hs.1.1.2
  show pre (sg wLet :: (0,name,0) :: sg [61] :: (tE dgL a++[sg [59]]))=32 :: (wLet++32 :: (name++32 :: 61 :: 32 :: (gE a++[32,59])))
  rw [u0v,u0v,u0v,u1n,ha,u0v,u7w]; simp [sg]
 rw [if_neg k0,if_neg k0]
 by_cases k1:kind=1
 ·rw [if_pos (.inr k1)] at hs; rw [if_pos k1,if_pos k1]
  simp only [Bool.and_eq_true,beq_iff_eq] at hs
  obtain ⟨a,rfl,ha⟩:=one hs.1.1.2
  show pre ((0,name,0) :: sg [61] :: (tE dgL a++[sg [59]]))=32 :: (name++32 :: 61 :: 32 :: (gE a++[32,59]))
  rw [u0v,u0v,u1n,ha,u0v,u7w]; simp [sg]
 rw [if_neg (by omega)] at hs; rw [if_neg k1,if_neg k1]
 by_cases k2:kind=2
 ·rw [if_pos k2] at hs; rw [if_pos k2,if_pos k2]
  simp only [Bool.and_eq_true,beq_iff_eq] at hs
  obtain ⟨a,b,rfl,ha,hb⟩:=two hs.1.1.2
  show pre ((0,name,0) :: sg [91] :: (tE dgL a++sg [93] :: sg [61] :: (tE dgL b++[sg [59]])))=32 :: (name++32 :: 91 :: 32 :: (gE a++32 :: 93 :: 32 :: 61 :: 32 :: (gE b++[32,59])))
  rw [u0v,u0v,u1n,ha,u0v,u0v,u1n,hb,u0v,u7w]; simp [sg]
 rw [if_neg k2] at hs; rw [if_neg k2,if_neg k2]
 by_cases k3:kind=3
 ·rw [if_pos k3] at hs; rw [if_pos k3,if_pos k3]
  simp only [Bool.and_eq_true,beq_iff_eq] at hs
  obtain ⟨a,rfl,ha⟩:=one hs.2
  show pre (sg wIf :: (tE dgL a++(u2i b++if ne' then [] else sg wElse :: u2i c)))=32 :: (wIf++32 :: (gE a++(u8u gb++if ne' then [] else 32 :: (wElse++u8u gc))))
  rw [u0v,u1n,ha,u1n,brace_pre hb]
  cases ne' with
  | true=>simp [sg,pre]
  | false =>
   simp only [Bool.false_eq_true,if_false]
   rw [u0v,brace_pre hc]; simp [sg]
 rw [if_neg k3] at hs; rw [if_neg k3,if_neg k3]
 by_cases k4:kind=4
 ·rw [if_pos k4] at hs; rw [if_pos k4,if_pos k4]
  simp only [Bool.and_eq_true,beq_iff_eq] at hs
  obtain ⟨a,rfl,ha⟩:=one hs.1.2
  show pre (sg u5u :: (tE dgL a++u2i b))=32 :: (u5u++32 :: (gE a++u8u gb))
  rw [u0v,u1n,ha,brace_pre hb]; simp [sg]
 rw [if_neg k4] at hs; rw [if_neg k4,if_neg k4]
 by_cases k5:kind=5
 ·rw [if_pos k5,if_pos k5]; rfl
 rw [if_neg k5,if_neg k5]
 by_cases k6:kind=6
 ·rw [if_pos k6,if_pos k6]; rfl
 rw [if_neg k6,if_neg k6]
 by_cases k7:kind=7
 ·rw [if_neg (by omega),if_pos k7] at hs; rw [if_pos k7,if_pos k7]
  simp only [Bool.and_eq_true,decide_eq_true_eq] at hs
  have h1:=hs.1.1.2
  cases exprs with
  | nil=>rfl
  | cons a l =>
   obtain rfl:l=[]:=by
    cases l with
    | nil=>rfl
    | cons b l=>simp only [List.length_cons] at h1; omega
   have ha:=h a (by simp)
   show pre (sg u3i :: (tE dgL a++[sg [59]]))=32 :: (u3i++(32 :: gE a++[32,59]))
   rw [u0v,u1n,ha,u0v,u7w]; simp [sg]
 rw [if_neg k7,if_neg k7]
 by_cases k8:kind=8
 ·subst k8; rfl
 rw [if_neg (by omega),if_neg k7] at hs
 by_cases k9:kind=9
 ·rw [if_pos k9] at hs; rw [if_pos k9,if_pos k9]
  simp only [Bool.and_eq_true,beq_iff_eq] at hs
  obtain ⟨a,b,rfl,ha,hb⟩:=two hs.1.1.2
  show pre (sg u4z :: sg (u2x op) :: (0,name,0) :: sg [91] :: (tE dgL a++sg [93] :: sg [44] :: (tE dgL b++[sg [59]]))) =
   32 :: (u4z++32 :: (u2x op++32 :: (name++32 :: 91 :: 32 :: (gE a++32 :: 93 :: 32 :: 44 :: 32 :: (gE b++[32,59])))))
  rw [u0v,u0v,u0v,u0v,u1n,ha,u0v,u0v,u1n,hb,u0v,u7w]; simp [sg]
 rw [if_neg k9] at hs; rw [if_neg k9,if_neg k9]
 by_cases k10:kind=10
 ·rw [if_pos k10] at hs; rw [if_pos k10,if_pos k10]
  simp only [Bool.and_eq_true,beq_iff_eq] at hs
  obtain ⟨a,rfl,ha⟩:=one hs.1.1.2
  show pre (sg u3u :: (0,name,0) :: sg [61] :: sg (u2x op) :: (tE dgL a++[sg [59]]))=32 :: (u3u++32 :: (name++32 :: 61 :: 32 :: (u2x op++32 :: (gE a++[32,59]))))
  rw [u0v,u0v,u0v,u0v,u1n,ha,u0v,u7w]; simp [sg]
 rw [if_neg k10] at hs
 cases hs
mutual
theorem gS_pre (nm:List UInt8→Bool):(s:St)→okS nm s=true→pre (tS dgL s)=32 :: gS s
 | .mk kind op name exprs body els,h=>by
  rw [okS] at h
  simp only [Bool.and_eq_true] at h
  rw [tS,gS]
  exact st_pre h.1.1.1 (gEs_pre nm exprs (by rw [u5d]; exact h.1.1.2)) (gSs_pre nm body h.1.2) (gSs_pre nm els h.2) _
theorem gSs_pre (nm:List UInt8→Bool):(l:List St)→okSs nm l=true→pre (tSs dgL l)=gSs l
 | [],_=>by rw [tSs,gSs]; rfl
 | s :: r,h=>by
  rw [okSs,Bool.and_eq_true] at h
  rw [tSs,gSs,u1n,gS_pre nm s h.1,gSs_pre nm r h.2]; rfl
end
def u8a (a:List UInt8 × Bool):List UInt8:=(if a.2 then u7u else wInt)++32 :: a.1
def u7e (a:List UInt8 × Int):List UInt8:=32 :: (u4e++32 :: (a.1++32 :: 91 :: 32 :: (dgL a.2++[32,93,32,59])))
def gI:It→List UInt8
 | .fn x ps b=>32 :: (u8z++32 :: (x++32 :: 40 :: (u1c ps++32 :: 41 :: u8u (gSs b))))
 | .ker x ps sh b=>32 :: (u7t++32 :: (x++32 :: 40 :: (u1c (ps.map u8a)++32 :: 41 :: u8u (sh.flatMap u7e++gSs b))))
theorem shared_pre:∀ l:List (List UInt8 × Int),pre (l.flatMap (u9b dgL))=l.flatMap u7e
 | []=>rfl
 | a :: l=>by
  rw [List.flatMap_cons,List.flatMap_cons,u1n,shared_pre l]
  rfl
theorem gI_pre (nm:List UInt8→Bool) (i:It) (h:okI nm i=true):pre (tI dgL i)=gI i:=by
 cases i with
 | fn x ps b =>
  rw [okI,Bool.and_eq_true] at h
  have hc:=pre_commas (w:=fun y=>[((0:Int),y,(0:Int))]) (g:=id) ps (fun a _=>by simp [pre])
  rw [List.map_id] at hc
  rw [tI,u0v,u0v,u0v,u1n,hc,u0v,brace_pre (gSs_pre nm b h.2)]
  simp [sg,gI]
 | ker x ps sh b =>
  rw [okI,Bool.and_eq_true] at h
  have hc:=pre_commas (w:=u6g) (g:=u8a) ps (fun a _=>by simp [pre,u6g,u8a,sg])
  have hb:pre (sh.flatMap (u9b dgL)++tSs dgL b)=sh.flatMap u7e++gSs b:=by rw [u1n,shared_pre,gSs_pre nm b h.2]
  rw [tI,u0v,u0v,u0v,u1n,hc,u0v,brace_pre hb]
  simp [sg,gI]
theorem gP_pre (nm:List UInt8→Bool):∀ l:List It,(∀ i∈l,okI nm i=true)→pre (l.flatMap (tI dgL))=l.flatMap gI
 | [],_=>rfl
 | i :: l,h=>by rw [List.flatMap_cons,List.flatMap_cons,u1n,gI_pre nm i (h i (by simp)),gP_pre nm l fun j hj=>h j (by simp [hj])]
theorem gP_txt {nm:List UInt8→Bool} {l:List It} (h:∀ i∈l,okI nm i=true):txt (l.flatMap (tI dgL))=(l.flatMap gI).drop 1:=by
 rw [txt_drop,gP_pre nm l h]
end Go.Proofs.YtbkhnilbgocpnaaGreatDoor.SynC
namespace Go.Proofs.YtbkhnilbgocpnaaGreatDoor.SynC
structure Fn where
 name:List UInt8
 params:List (List UInt8)
 body:List St
structure Kr where
 name:List UInt8
 params:List (List UInt8 × Bool)
 shared:List (List UInt8 × Int)
 body:List St
structure Pg where
 fns:List Fn
 krs:List Kr
def Fn.it (f:Fn):It:=.fn f.name f.params f.body
def Kr.it (k:Kr):It:=.ker k.name k.params k.shared k.body
def Pg.its (p:Pg):List It:=p.fns.map Fn.it++p.krs.map Kr.it
def It.fn?:It→Option Fn
 | .fn x ps b=>some ⟨x,ps,b⟩
 | _=>none
def It.kr?:It→Option Kr
 | .ker x ps sh b=>some ⟨x,ps,sh,b⟩
 | _=>none
def pg (l:List It):Pg:=⟨l.filterMap It.fn?,l.filterMap It.kr?⟩
def OkP (nm:List UInt8→Bool) (p:Pg):Prop:=∀ i∈p.its,okI nm i=true
theorem u0y {α β γ:Type} (x:Res α) (f:α→List K→Res β) (g:β→List K→Res γ):(x.bind f).bind g=x.bind fun a r=>(f a r).bind g:=by
 cases x <;> rfl
theorem u9f {α:Type} (x:Res α):(x.bind fun a r=>.ok a r)=x:=by cases x <;> rfl
def TL:Nat→Nat→Ex→List K→Res Ex
 | _,0,a,l=>.ok a l
 | n,d+1,a,l=>(TL (n+1) d a l).bind fun b r=>PE (.tail n b) r
theorem ex_TL:∀ d n,n+d=11→∀ l,PE (.ex n) l=(PE .un l).bind (TL n d)
 | 0,n,h,l=>by
  have:n=11:=by omega
  subst this
  rw [ex11]
  exact (u9f _).symm
 | d+1,n,h,l=>by
  rw [u6z,step,if_neg (by omega),ex_TL d (n+1) (by omega) l,u0y]
  rfl
theorem TL_stop {a:Ex} {l:List K}:∀ d n,NoOp n (n+d) l→TL n d a l=.ok a l
 | 0,_,_=>rfl
 | d+1,n,h=>by
  rw [TL,TL_stop d (n+1) (fun k h1 h2=>h k (by omega) (by omega))]
  exact tail_stop fun t r e=>h n (Nat.le_refl _) (by omega) t r e
theorem tail_end:∀ (m:Nat) (n:Nat) (a b:Ex) (l r:List K),l.length≤m→n≤10→NoOp (n+1) 11 l→PE (.tail n a) l=.ok b r→NoOp n 11 r∧True
 | m,n,a,b,l,r,hm,hn,ho,h=>by
  
  have ends:∀ d k,k+d=11→∀ l' b' r',l'.length<l.length→PE (.ex k) l'=.ok b' r'→NoOp k 11 r':=by
   intro d
   induction d with
   | zero=>intro k hk l' b' r' _ _ j h1 h2; omega
   | succ d ih =>
    intro k hk l' b' r' hl h'
    rw [u6z,step,if_neg (by omega)] at h'
    obtain ⟨c,q,e1,e2⟩:=u0t h'
    have hq:=PE_len _ _ _ _ e1
    simp only [dl] at hq
    cases m with
    | zero=>omega
    | succ m=>exact (tail_end m k c b' q r' (by omega) (by omega) (ih (k+1) (by omega) l' c q hl e1) e2).1
  refine ⟨?_,trivial⟩
  cases l with
  | nil =>
   rw [u6z] at h
   simp only [step] at h
   cases h
   intro _ _ _ _ _ e; cases e
  | cons t q =>
   rw [u6z] at h
   simp only [step] at h
   split at h
   ·obtain ⟨c,u,e1,e2⟩:=u0t h
    have hu:=PE_len _ _ _ _ e1
    simp only [dl] at hu
    have hc:=ends (10 - n) (n+1) (by omega) q c u (by simp) e1
    cases m with
    | zero=>simp at hm
    | succ m=>exact (tail_end m n _ b u r (by simp only [List.length_cons] at hm; omega) hn hc e2).1
   ·rename_i hno
    cases h
    intro k h1 h2 t' q' e
    by_cases hk:k=n
    ·cases e; rw [hk]; exact hno
    ·exact ho k (by omega) h2 t' q' e
 termination_by m=>m
theorem ex_end:∀ d n,n+d=11→∀ {l r b},PE (.ex n) l=.ok b r→NoOp n 11 r
 | 0,n,h,_,_,_,_=>fun k h1 h2=>by omega
 | d+1,n,h,l,r,b,e=>by
  rw [u6z,step,if_neg (by omega)] at e
  obtain ⟨c,q,e1,e2⟩:=u0t e
  exact (tail_end q.length n c b q r (Nat.le_refl _) (by omega) (ex_end d (n+1) (by omega) e1) e2).1
theorem opOf_one {t:K} {m k:Nat} {o o':Int} (h1:1≤m) (h2:m≤10) (h3:1≤k) (h4:k≤10) (h:opOf m t=some o) (h':opOf k t=some o'):k=m:=by
 unfold opOf at h h'
 split at h
 ·rename_i ht
  rw [if_pos ht] at h'
  have key:∀ s:List UInt8,∀ m∈List.range' 1 10,∀ x∈lev m,x.1=s→∀ k∈List.range' 1 10,∀ y∈lev k,y.1=s→k=m:=by
   have:∀ m∈List.range' 1 10,∀ x∈lev m,∀ k∈List.range' 1 10,∀ y∈lev k,y.1=x.1→k=m:=by decide
   intro s m hm x hx e k hk y hy e'
   exact this m hm x hx k hk y hy (e'.trans e.symm)
  have mem:∀ (L:List (List UInt8 × Int)) o,L.lookup t.2.1=some o→∃ x∈L,x.1=t.2.1:=by
   intro L
   induction L with
   | nil=>intro o h; cases h
   | cons x L ih =>
    intro o h
    by_cases hx:t.2.1=x.1
    ·exact ⟨x,by simp,hx.symm⟩
    ·rw [List.lookup_cons,beq_false_of_ne hx] at h
     obtain ⟨y,hy,e⟩:=ih o h
     exact ⟨y,by simp [hy],e⟩
  obtain ⟨x,hx,ex⟩:=mem _ _ h
  obtain ⟨y,hy,ey⟩:=mem _ _ h'
  exact key _ m (by simp only [List.mem_range'_1]; omega) x hx ex k (by simp only [List.mem_range'_1]; omega) y hy ey
 ·cases h
theorem TL_op {m:Nat} {t:K} {op:Int} (h1:1≤m) (hm:m≤10) (ho:opOf m t=some op) (a:Ex) (r:List K):∀ d n,n+d=11→1≤n→n≤m →
  TL n d a (t :: r)=(PE (.ex (m+1)) r).bind fun b q=>TL n d (bin op t.2.1 a b) q
 | 0,n,h,hn,hle=>by omega
 | d+1,n,h,hn,hle=>by
  by_cases e:n=m
  ·subst e
   have hs:NoOp (n+1) (n+1+d) (t :: r):=by
    intro k k1 k2 t' q' e
    cases e
    cases hk:opOf k t with
    | none=>rfl
    | some o'=>have:=opOf_one h1 hm (by omega) (by omega) ho hk; omega
   rw [TL,TL_stop d (n+1) hs]
   show PE (.tail n a) (t :: r)=_
   rw [u6z]
   simp only [step,ho]
   refine u1v fun b q e=>?_
   rw [TL,TL_stop d (n+1) (fun k k1 k2=>ex_end d (n+1) (by omega) e k k1 (by omega))]
   rfl
  ·rw [TL,TL_op h1 hm ho a r d (n+1) (by omega) (by omega) (by omega),u0y]
   rfl
end Go.Proofs.YtbkhnilbgocpnaaGreatDoor.SynC
namespace Go.Proofs.YtbkhnilbgocpnaaGreatDoor.SynC
open Go.Proofs.YtbkhnilbgocpnaaGreatDoor.LexC
def SmK (k:K):Prop:=k.2.1.length≤16
def SmKs (l:List K):Prop:=∀ k∈l,SmK k
theorem u5b:SmKs []:=fun _ h=>by cases h
theorem u0p {k:K} {l:List K} (h:SmK k) (hl:SmKs l):SmKs (k :: l):=fun x hx=>by
 rcases List.mem_cons.1 hx with rfl | hx
 ·exact h
 ·exact hl x hx
theorem u1l {l m:List K} (h:SmKs l) (hm:SmKs m):SmKs (l++m):=fun x hx=>by
 rcases List.mem_append.1 hx with hx | hx
 ·exact h x hx
 ·exact hm x hx
theorem smKs_flat {α:Type} {w:α→List K} {l:List α} (h:∀ a∈l,SmKs (w a)):SmKs (l.flatMap w):=fun x hx=>by
 obtain ⟨a,ha,hx⟩:=List.mem_flatMap.1 hx
 exact h a ha x hx
theorem u3q {s:List UInt8} (h:s.length≤16):SmK (sg s):=h
theorem u6a {x:List UInt8} (h:nmL x=true):SmK (0,x,0):=by
 cases x with
 | nil=>cases h
 | cons c r =>
  simp only [nmL,Bool.and_eq_true,decide_eq_true_eq,Bool.not_eq_true'] at h
  exact h.1.2
theorem digL_len:∀ (k n:Nat),n<10 ^ (k+1)→(digL n).length≤k+1
 | 0,n,h=>by rw [digL,dif_pos (by omega)]; simp
 | k+1,n,h=>by
  rw [digL]
  split
  ·simp
  ·have:=digL_len k (n / 10) (by rw [Nat.pow_succ] at h; omega)
   simp; omega
theorem sm_int {i:Int} (h:0≤i∧i<2147483648∨i = -2147483648):SmK (1,dgL i,i):=by
 have:=digL_len 9 i.natAbs (by omega)
 show (digL i.natAbs).length≤16
 omega
theorem ite_len {c:Prop} [Decidable c] {a b:List UInt8} (ha:a.length≤16) (hb:b.length≤16):(if c then a else b).length≤16:=by
 split
 ·exact ha
 ·exact hb
theorem sm_op (op:Int):SmK (sg (u5h op)):=by
 refine u3q ?_
 unfold u5h
 repeat' (refine ite_len ?_ ?_)
 all_goals decide
theorem sm_sp (op:Int):SmK (sg (spText op)):=by
 refine u3q ?_
 unfold spText
 repeat' split
 all_goals decide
theorem sm_un (op:Int):SmK (sg (u7y op)):=by
 refine u3q ?_
 unfold u7y
 repeat' split
 all_goals decide
theorem sm_fold (op:Int):SmK (sg (u2x op)):=by
 refine u3q ?_
 unfold u2x
 repeat' split
 all_goals decide
theorem sm_commas {l:List (List K)} (h:∀ t∈l,SmKs t):SmKs (u2f l):=by
 cases l with
 | nil=>exact u5b
 | cons t r =>
  exact u1l (h t (by simp)) (smKs_flat fun u hu=>u0p (u3q (by decide)) (h u (by simp [hu])))
theorem getD_sm {l:List (List K)} (h:∀ t∈l,SmKs t) (i:Nat):SmKs (l.getD i []):=by
 rw [List.getD_eq_getElem?_getD]
 cases e:l[i]? with
 | none=>exact u5b
 | some t=>exact h t (List.mem_of_getElem? e)
theorem body_sm {kind op num:Int} {name:List UInt8} {n:Nat} (hs:u1h nmL kind op num name n=true) {ks:List (List K)} (h:∀ t∈ks,SmKs t) :
  SmKs (u4v dgL kind op num name ks):=by
 unfold u1h at hs
 unfold u4v
 have h41:SmKs [sg [41]]:=u0p (u3q (by decide)) u5b
 have h93:SmKs [sg [93]]:=u0p (u3q (by decide)) u5b
 by_cases k0:kind=0
 ·rw [if_pos k0] at hs ⊢
  simp at hs
  refine u0p (sm_int ?_) u5b
  rcases hs.1.2 with h | h
  ·exact .inl h
  ·exact .inr h
 rw [if_neg k0] at hs ⊢
 by_cases k1:kind=1
 ·subst k1
  simp at hs
  exact u0p (u6a hs.1.1.2) u5b
 rw [if_neg k1] at hs
 by_cases k2:kind=2
 ·rw [if_pos k2]; exact u0p (sm_sp op) u5b
 rw [if_neg k2] at hs ⊢
 by_cases k3:kind=3
 ·rw [if_pos k3]; exact u0p (sm_un op) (getD_sm h 0)
 rw [if_neg k3] at hs ⊢
 by_cases k4:kind=4
 ·rw [if_pos k4] at hs ⊢
  simp at hs
  have ho:=sm_op op
  split
  ·exact u0p ho (u0p (u3q (by decide)) (u1l (getD_sm h 0) (u0p (u3q (by decide)) (u1l (getD_sm h 1) h41))))
  ·exact u0p (u3q (by decide)) (u1l (getD_sm h 0) (u0p ho (u1l (getD_sm h 1) h41)))
 rw [if_neg k4] at hs ⊢
 by_cases k5:kind=5
 ·rw [if_pos k5] at hs ⊢
  simp at hs
  exact u0p (u6a hs.1.1.2) (u0p (u3q (by decide)) (u1l (getD_sm h 0) h93))
 rw [if_neg k5] at hs ⊢
 by_cases k6:kind=6
 ·rw [if_pos k6] at hs ⊢
  simp at hs
  exact u0p (u6a hs.1.1.2) (u0p (u3q (by decide)) (u1l (sm_commas h) h41))
 rw [if_neg k6] at hs
 cases hs
mutual
theorem sm_E:(e:Ex)→okE nmL e=true→SmKs (tE dgL e)
 | .mk kind op num name kids,h=>by
  rw [okE,Bool.and_eq_true] at h
  rw [tE]
  exact body_sm h.1 (sm_Es kids h.2)
theorem sm_Es:(l:List Ex)→okEs nmL l=true→∀ t∈tEs dgL l,SmKs t
 | [],_=>fun t h=>by rw [tEs] at h; cases h
 | e :: r,h=>by
  rw [okEs,Bool.and_eq_true] at h
  intro t ht
  rw [tEs] at ht
  rcases List.mem_cons.1 ht with ht | ht
  ·exact ht ▸ sm_E e h.1
  ·exact sm_Es r h.2 t ht
end
theorem sm_brace {b:List K} (h:SmKs b):SmKs (u2i b) :=
 u0p (u3q (by decide)) (u1l h (u0p (u3q (by decide)) u5b))
theorem st_sm {kind op:Int} {name:List UInt8} {n:Nat} {nb ne:Bool} (hs:u0u nmL kind op name n nb ne=true) {es:List (List K)} (h:∀ t∈es,SmKs t) {b c:List K}
  (hb:SmKs b) (hc:SmKs c) (ne':Bool):SmKs (stT kind op name es b c ne'):=by
 unfold u0u at hs
 unfold stT
 have h59:SmKs [sg [59]]:=u0p (u3q (by decide)) u5b
 have g0:=getD_sm h 0
 have g1:=getD_sm h 1
 by_cases k0:kind=0
 ·rw [if_pos (.inl k0)] at hs; rw [if_pos k0]
  simp at hs
  exact u0p (u3q (by decide)) (u0p (u6a hs.1.1.1.2) (u0p (u3q (by decide)) (u1l g0 h59)))
 rw [if_neg k0]
 by_cases k1:kind=1
 ·rw [if_pos (.inr k1)] at hs; rw [if_pos k1]
  simp at hs
  exact u0p (u6a hs.1.1.1.2) (u0p (u3q (by decide)) (u1l g0 h59))
 rw [if_neg (by omega)] at hs; rw [if_neg k1]
 by_cases k2:kind=2
 ·rw [if_pos k2] at hs ⊢
  simp at hs
  exact u0p (u6a hs.1.1.1.2) (u0p (u3q (by decide)) (u1l g0 (u0p (u3q (by decide)) (u0p (u3q (by decide)) (u1l g1 h59)))))
 rw [if_neg k2] at hs ⊢
 by_cases k3:kind=3
 ·rw [if_pos k3]
  refine u0p (u3q (by decide)) (u1l g0 (u1l (sm_brace hb) ?_))
  split
  ·exact u5b
  ·exact u0p (u3q (by decide)) (sm_brace hc)
 rw [if_neg k3] at hs ⊢
 by_cases k4:kind=4
 ·rw [if_pos k4]; exact u0p (u3q (by decide)) (u1l g0 (sm_brace hb))
 rw [if_neg k4] at hs ⊢
 by_cases k5:kind=5
 ·rw [if_pos k5]; exact u0p (u3q (by decide)) h59
 rw [if_neg k5]
 by_cases k6:kind=6
 ·rw [if_pos k6]; exact u0p (u3q (by decide)) h59
 rw [if_neg k6]
 by_cases k7:kind=7
 ·rw [if_pos k7]; exact u0p (u3q (by decide)) (u1l g0 h59)
 rw [if_neg k7] at hs ⊢
 by_cases k9:kind=9
 ·subst k9
  simp at hs
  exact u0p (u3q (by decide)) (u0p (sm_fold op) (u0p (u6a hs.1.1.1.2) (u0p (u3q (by decide)) (u1l g0
   (u0p (u3q (by decide)) (u0p (u3q (by decide)) (u1l g1 h59)))))))
 rw [if_neg k9]
 by_cases k10:kind=10
 ·subst k10
  simp at hs
  exact u0p (u3q (by decide)) (u0p (u6a hs.1.1.1.2) (u0p (u3q (by decide)) (u0p (sm_fold op) (u1l g0 h59))))
 rw [if_neg k10]
 exact u0p (u3q (by decide)) h59
mutual
theorem sm_S:(s:St)→okS nmL s=true→SmKs (tS dgL s)
 | .mk kind op name exprs body els,h=>by
  rw [okS] at h
  simp only [Bool.and_eq_true] at h
  rw [tS]
  refine st_sm h.1.1.1 (fun t ht=>?_) (sm_Ss body h.1.2) (sm_Ss els h.2) _
  obtain ⟨e,he,rfl⟩:=List.mem_map.1 ht
  exact sm_E e (List.all_eq_true.1 h.1.1.2 e he)
theorem sm_Ss:(l:List St)→okSs nmL l=true→SmKs (tSs dgL l)
 | [],_=>by rw [tSs]; exact u5b
 | s :: r,h=>by
  rw [okSs,Bool.and_eq_true] at h
  rw [tSs]
  exact u1l (sm_S s h.1) (sm_Ss r h.2)
end
theorem sm_I (i:It) (h:okI nmL i=true):SmKs (tI dgL i):=by
 cases i with
 | fn x ps b =>
  simp only [okI,Bool.and_eq_true] at h
  refine u0p (u3q (by decide)) (u0p (u6a h.1.1.1) (u0p (u3q (by decide)) (u1l (sm_commas fun t ht=>?_)
   (u0p (u3q (by decide)) (sm_brace (sm_Ss b h.2))))))
  obtain ⟨y,hy,rfl⟩:=List.mem_map.1 ht
  exact u0p (u6a (List.all_eq_true.1 h.1.1.2 y hy)) u5b
 | ker x ps sh b =>
  simp only [okI,Bool.and_eq_true] at h
  obtain ⟨⟨⟨⟨⟨h1,h2⟩,-⟩,h3⟩,-⟩,h4⟩:=h
  refine u0p (u3q (by decide)) (u0p (u6a h1) (u0p (u3q (by decide)) (u1l (sm_commas fun t ht=>?_)
   (u0p (u3q (by decide)) (sm_brace (u1l (smKs_flat fun a ha=>?_) (sm_Ss b h4)))))))
  ·obtain ⟨y,hy,rfl⟩:=List.mem_map.1 ht
   refine u0p ?_ (u0p (u6a (List.all_eq_true.1 h2 y hy)) u5b)
   split
   ·exact u3q (by decide)
   ·exact u3q (by decide)
  ·have:=List.all_eq_true.1 h3 a ha
   simp at this
   exact u0p (u3q (by decide)) (u0p (u6a this.1) (u0p (u3q (by decide)) (u0p (sm_int (.inl ⟨by omega,by omega⟩))
    (u0p (u3q (by decide)) (u0p (u3q (by decide)) u5b)))))
theorem pre_len:∀ l:List K,SmKs l→(pre l).length≤17 * l.length
 | [],_=>by simp [u7w]
 | k :: l,h=>by
  have h1:k.2.1.length≤16:=h k (by simp)
  have h2:=pre_len l fun x hx=>h x (by simp [hx])
  rw [u0v]
  simp; omega
theorem txt_len (l:List K) (h:SmKs l):(txt l).length≤17 * l.length:=by
 rw [txt_drop,List.length_drop]
 have:=pre_len l h
 omega
def sumL (l:List (List K)):Nat:=(l.map List.length).sum
theorem sumL_cons (a:List K) (l:List (List K)):sumL (a :: l)=a.length+sumL l:=by simp [sumL]
theorem getD_len (l:List (List K)):(l.getD 0 []).length+(l.getD 1 []).length≤sumL l:=by
 match l with
 | []=>simp [sumL]
 | [a]=>simp [sumL]
 | a :: b :: r=>simp [sumL]
theorem commas_tail (l:List (List K)):(l.flatMap fun u=>sg [44] :: u).length=sumL l+l.length:=by
 induction l with
 | nil=>simp [sumL]
 | cons a l ih=>rw [List.flatMap_cons,List.length_append,ih,sumL_cons]; simp; omega
theorem commas_len (l:List (List K)):(u2f l).length≤sumL l+l.length:=by
 cases l with
 | nil=>simp [u2f]
 | cons a l=>rw [u2f,List.length_append,commas_tail,sumL_cons]; simp; omega
theorem brace_len (b:List K):(u2i b).length=b.length+2:=by simp [u2i]
theorem body_len {nm:List UInt8→Bool} {dg:Int→List UInt8} {kind op num:Int} {name:List UInt8} {ks:List (List K)} (hs:u1h nm kind op num name ks.length=true):(u4v dg kind op num name ks).length≤9+sumL ks:=by
 have h01:=getD_len ks
 have hc:=commas_len ks
 have h6:kind=6→ks.length≤6:=fun h=>by subst h; simp [u1h] at hs; exact hs.2
 unfold u4v
 repeat' split
 all_goals simp only [List.length_cons,List.length_append,List.length_nil]
 all_goals first | omega | (have:=h6 (by omega); omega) | skip
mutual
theorem tE_len (nm:List UInt8→Bool):(e:Ex)→okE nm e=true→((tE dgL e).length:Int)≤9 * u4d e
 | .mk kind op num name kids,h=>by
  rw [okE,Bool.and_eq_true] at h
  rw [tE,u4d]
  have h1:=tEs_len nm kids h.2
  have hl:(tEs dgL kids).length=kids.length:=by rw [tEs_map,List.length_map]
  have h2:=body_len (dg:=dgL) (by rw [hl]; exact h.1)
  omega
theorem tEs_len (nm:List UInt8→Bool):(l:List Ex)→okEs nm l=true→(sumL (tEs dgL l):Int)≤9 * u0s l
 | [],_=>by rw [tEs,u0s]; simp [sumL]
 | e :: r,h=>by
  rw [okEs,Bool.and_eq_true] at h
  rw [tEs,u0s,sumL_cons]
  have h1:=tE_len nm e h.1
  have h2:=tEs_len nm r h.2
  omega
end
theorem st_len (kind op:Int) (name:List UInt8) (es:List (List K)) (b c:List K) (ne:Bool):(stT kind op name es b c ne).length≤9+sumL es+b.length+c.length:=by
 have h01:=getD_len es
 have hb:=brace_len b
 have hc:=brace_len c
 unfold stT
 repeat' split
 all_goals simp only [List.length_cons,List.length_append,List.length_nil]
 all_goals omega
mutual
theorem tS_len (nm:List UInt8→Bool):(s:St)→okS nm s=true→((tS dgL s).length:Int)≤9 * u3y s
 | .mk kind op name exprs body els,h=>by
  rw [okS] at h
  simp only [Bool.and_eq_true] at h
  rw [tS,u3y]
  have h1:=tEs_len nm exprs (by rw [u5d]; exact h.1.1.2)
  rw [tEs_map] at h1
  have h2:=tSs_len nm body h.1.2
  have h3:=tSs_len nm els h.2
  have h4:=st_len kind op name (exprs.map (tE dgL)) (tSs dgL body) (tSs dgL els) els.isEmpty
  omega
theorem tSs_len (nm:List UInt8→Bool):(l:List St)→okSs nm l=true→((tSs dgL l).length:Int)≤9 * u0r l
 | [],_=>by rw [tSs,u0r]; simp
 | s :: r,h=>by
  rw [okSs,Bool.and_eq_true] at h
  rw [tSs,u0r,List.length_append]
  have h1:=tS_len nm s h.1
  have h2:=tSs_len nm r h.2
  omega
end
def bodyI:It→List St
 | .fn _ _ b=>b
 | .ker _ _ _ b=>b
theorem sum_const {α:Type} (f:α→List K) (n:Nat) (h:∀ a,(f a).length=n) (l:List α):sumL (l.map f)=n * l.length:=by
 induction l with
 | nil=>simp [sumL]
 | cons a l ih=>rw [List.map_cons,sumL_cons,ih,h,List.length_cons,Nat.mul_succ]; omega
theorem flat_const {α:Type} (f:α→List K) (n:Nat) (h:∀ a,(f a).length=n) (l:List α):(l.flatMap f).length=n * l.length:=by
 induction l with
 | nil=>simp
 | cons a l ih=>rw [List.flatMap_cons,List.length_append,ih,h,List.length_cons,Nat.mul_succ]; omega
theorem tI_len (nm:List UInt8→Bool) (i:It) (h:okI nm i=true):((tI dgL i).length:Int)≤60+9 * u0r (bodyI i):=by
 cases i with
 | fn x ps b =>
  simp only [okI,Bool.and_eq_true,decide_eq_true_eq] at h
  have h1:=tSs_len nm b h.2
  have h2:=commas_len (ps.map fun y=>[((0:Int),y,(0:Int))])
  rw [sum_const _ 1 (fun _=>rfl),List.length_map] at h2
  rw [tI]
  simp only [List.length_cons,List.length_append,brace_len]
  have:=h.1.2
  show _≤60+9 * u0r b
  omega
 | ker x ps sh b =>
  simp only [okI,Bool.and_eq_true,decide_eq_true_eq] at h
  obtain ⟨⟨⟨⟨-,h3⟩,-⟩,h4⟩,h5⟩:=h
  have h1:=tSs_len nm b h5
  have h2:=commas_len (ps.map u6g)
  rw [sum_const _ 2 (fun _=>rfl),List.length_map] at h2
  rw [tI]
  simp only [List.length_cons,List.length_append,brace_len]
  rw [flat_const _ 6 (fun _=>rfl)]
  show _≤60+9 * u0r b
  omega
def u6b:List It→Int
 | []=>0
 | i :: r=>u0r (bodyI i)+u6b r
theorem tIs_len (nm:List UInt8→Bool):∀ l:List It,(∀ i∈l,okI nm i=true)→((l.flatMap (tI dgL)).length:Int)≤60 * l.length+9 * u6b l
 | [],_=>by simp [u6b]
 | i :: r,h=>by
  have h1:=tI_len nm i (h i (by simp))
  have h2:=tIs_len nm r fun j hj=>h j (by simp [hj])
  rw [List.flatMap_cons,List.length_append,u6b,List.length_cons]
  omega
end Go.Proofs.YtbkhnilbgocpnaaGreatDoor.SynC
namespace Go.Proofs.YtbkhnilbgocpnaaGreatDoor.SynC
def fitE (nm:List UInt8→Bool) (p lv:Int) (e:Ex):Bool:=okE nm e&&decide (p+u4d e≤400)&&decide (lv+u6i e≤13)
def fitEs (nm:List UInt8→Bool) (p lv:Int) (l:List Ex):Bool:=okEs nm l&&decide (p+u0s l≤400)&&decide (lv+u1u l≤13)
def fitS (nm:List UInt8→Bool) (p lv:Int) (s:St):Bool:=okS nm s&&decide (p+u3y s≤400)&&decide (lv+u6t s≤13)&&decide (exdS s≤12)
def u6y (nm:List UInt8→Bool) (p lv:Int) (l:List St):Bool:=okSs nm l&&decide (p+u0r l≤400)&&decide (lv+u1o l≤13)&&decide (u3s l≤12)
theorem u3p {a b:Bool} (h:a=true↔b=true):a=b:=by cases a <;> cases b <;> simp_all
theorem fitE_mk (nm:List UInt8→Bool) (p lv:Int) (kind op num:Int) (name:List UInt8) (kids:List Ex) :
  fitE nm p lv (.mk kind op num name kids)=(decide (p+1≤400)&&decide (lv≤12)&&u1h nm kind op num name kids.length&&fitEs nm (p+1) (lv+1) kids):=by
 have h1:=u2m kids
 have h2:=u5i kids
 refine u3p ?_
 unfold fitE fitEs
 rw [okE,u4d,u6i]
 simp only [Bool.and_eq_true,decide_eq_true_eq]
 constructor
 ·rintro ⟨⟨⟨a,b⟩,c⟩,d⟩; exact ⟨⟨⟨by omega,by omega⟩,a⟩,⟨b,by omega⟩,by omega⟩
 ·rintro ⟨⟨⟨_,_⟩,a⟩,⟨b,c⟩,d⟩; exact ⟨⟨⟨a,b⟩,by omega⟩,by omega⟩
theorem fitEs_cons (nm:List UInt8→Bool) (p lv:Int) (e:Ex) (r:List Ex):fitEs nm p lv (e :: r)=(fitE nm p lv e&&fitEs nm (p+u4d e) lv r):=by
 have h1:=u2m r
 refine u3p ?_
 unfold fitE fitEs
 rw [okEs,u0s,u1u]
 simp only [Bool.and_eq_true,decide_eq_true_eq]
 constructor
 ·rintro ⟨⟨⟨a,b⟩,c⟩,d⟩; exact ⟨⟨⟨a,by omega⟩,by omega⟩,⟨b,by omega⟩,by omega⟩
 ·rintro ⟨⟨⟨a,_⟩,_⟩,⟨b,c⟩,d⟩; exact ⟨⟨⟨a,b⟩,by omega⟩,by omega⟩
theorem fitEs_nil (nm:List UInt8→Bool) (p lv:Int) (hp:p≤400) (hl:lv≤13):fitEs nm p lv []=true:=by
 unfold fitEs; rw [okEs,u0s,u1u]; simp; omega
theorem fitE_le {nm:List UInt8→Bool} {p lv:Int} {e:Ex} (h:fitE nm p lv e=true):p+u4d e≤400:=by
 unfold fitE at h; simp only [Bool.and_eq_true,decide_eq_true_eq] at h; exact h.1.2
theorem fitEs_le {nm:List UInt8→Bool} {p lv:Int} {l:List Ex} (h:fitEs nm p lv l=true):p+u0s l≤400:=by
 unfold fitEs at h; simp only [Bool.and_eq_true,decide_eq_true_eq] at h; exact h.1.2
theorem fitS_mk (nm:List UInt8→Bool) (p lv:Int) (kind op:Int) (name:List UInt8) (exprs:List Ex) (body els:List St) :
  fitS nm p lv (.mk kind op name exprs body els)=(decide (p+1≤400)&&decide (lv≤12)&&u0u nm kind op name exprs.length body.isEmpty els.isEmpty&&fitEs nm (p+1) 1 exprs&&u6y nm (p+1+u0s exprs) (lv+1) body&&u6y nm (p+1+u0s exprs+u0r body) (lv+1) els):=by
 have h1:=u2m exprs
 have h2:=u5i exprs
 have h3:=u1q body
 have h4:=u1q els
 have h5:=u3k body
 have h6:=u3k els
 refine u3p ?_
 unfold fitS fitEs u6y
 rw [okS,u3y,u6t,exdS,← u5d]
 simp only [Bool.and_eq_true,decide_eq_true_eq]
 constructor
 ·rintro ⟨⟨⟨⟨⟨⟨a,b⟩,c⟩,d⟩,e⟩,f⟩,g⟩
  exact ⟨⟨⟨⟨⟨by omega,by omega⟩,a⟩,⟨b,by omega⟩,by omega⟩,⟨⟨c,by omega⟩,by omega⟩,by omega⟩,⟨⟨d,by omega⟩,by omega⟩,by omega⟩
 ·rintro ⟨⟨⟨⟨⟨_,_⟩,a⟩,⟨b,_⟩,f⟩,⟨⟨c,_⟩,_⟩,_⟩,⟨⟨d,_⟩,_⟩,_⟩
  exact ⟨⟨⟨⟨⟨⟨a,b⟩,c⟩,d⟩,by omega⟩,by omega⟩,by omega⟩
theorem fitSs_cons (nm:List UInt8→Bool) (p lv:Int) (s:St) (r:List St):u6y nm p lv (s :: r)=(fitS nm p lv s&&u6y nm (p+u3y s) lv r):=by
 have h1:=u1q r
 refine u3p ?_
 unfold fitS u6y
 rw [okSs,u0r,u1o,u3s]
 simp only [Bool.and_eq_true,decide_eq_true_eq]
 constructor
 ·rintro ⟨⟨⟨⟨a,b⟩,c⟩,d⟩,e⟩; exact ⟨⟨⟨⟨a,by omega⟩,by omega⟩,by omega⟩,⟨⟨b,by omega⟩,by omega⟩,by omega⟩
 ·rintro ⟨⟨⟨⟨a,_⟩,_⟩,_⟩,⟨⟨b,_⟩,_⟩,_⟩; exact ⟨⟨⟨⟨a,b⟩,by omega⟩,by omega⟩,by omega⟩
theorem fitSs_nil (nm:List UInt8→Bool) (p lv:Int) (hp:p≤400) (hl:lv≤13):u6y nm p lv []=true:=by
 unfold u6y; rw [okSs,u0r,u1o,u3s]; simp; omega
theorem fitS_le {nm:List UInt8→Bool} {p lv:Int} {s:St} (h:fitS nm p lv s=true):p+u3y s≤400:=by
 unfold fitS at h; simp only [Bool.and_eq_true,decide_eq_true_eq] at h; exact h.1.1.2
theorem fitSs_le {nm:List UInt8→Bool} {p lv:Int} {l:List St} (h:u6y nm p lv l=true):p+u0r l≤400:=by
 unfold u6y at h; simp only [Bool.and_eq_true,decide_eq_true_eq] at h; exact h.1.1.2
end Go.Proofs.YtbkhnilbgocpnaaGreatDoor.SynC
namespace Go.Proofs.YtbkhnilbgocpnaaGreatDoor.SynC
open Go.Proofs.YtbkhnilbgocpnaaGreatDoor.LexC
open Go Go.ChangeShapes Go.WideShapes Go.ChangeAt Go.RowKit Go.Deep
def exRow (kind op num:Int) (name:List UInt8) (K:Value):List Value:=[.int .i64 kind,.int .i64 op,.int .i32 num,.string (bs name),K]
def stRow (kind op:Int) (name:List UInt8) (E B C:Value):List Value:=[.int .i64 kind,.int .i64 op,.string (bs name),E,B,C]
def At (w:World) (x:Addr) (cs:List Value):Prop:=∀ j u,cs[j]? = some u→w.cell? (x.add j)=some u
mutual
def RE (w:World) (P:Nat→Prop) (cs:List Value):Ex→Prop
 | .mk kind op num name kids=>∃ K,cs=exRow kind op num name K∧((K=.slice none 0 0∧kids=[])∨∃ x c,K=.slice (some x) kids.length c∧(kids≠[]→P x.block)∧REs w P x kids)
def REs (w:World) (P:Nat→Prop) (x:Addr):List Ex→Prop
 | []=>True
 | e :: r=>(∃ cs,At w x cs∧RE w P cs e)∧REs w P (x.add 5) r
end
def SlE (w:World) (P:Nat→Prop) (K:Value) (l:List Ex):Prop:=(K=.slice none 0 0∧l=[])∨∃ x c,K=.slice (some x) l.length c∧(l≠[]→P x.block)∧REs w P x l
theorem RE_eq (w:World) (P:Nat→Prop) (cs:List Value) (kind op num:Int) (name:List UInt8) (kids:List Ex) :
  RE w P cs (.mk kind op num name kids) = ∃ K,cs=exRow kind op num name K∧SlE w P K kids:=by rw [RE]; rfl
mutual
def RS (w:World) (P:Nat→Prop) (cs:List Value):St→Prop
 | .mk kind op name exprs body els=>∃ E B C,cs=stRow kind op name E B C∧SlE w P E exprs ∧
   ((B=.slice none 0 0∧body=[])∨∃ x c,B=.slice (some x) body.length c∧(body≠[]→P x.block)∧RSs w P x body) ∧
   ((C=.slice none 0 0∧els=[])∨∃ x c,C=.slice (some x) els.length c∧(els≠[]→P x.block)∧RSs w P x els)
def RSs (w:World) (P:Nat→Prop) (x:Addr):List St→Prop
 | []=>True
 | s :: r=>(∃ cs,At w x cs∧RS w P cs s)∧RSs w P (x.add 6) r
end
def SlS (w:World) (P:Nat→Prop) (K:Value) (l:List St):Prop:=(K=.slice none 0 0∧l=[])∨∃ x c,K=.slice (some x) l.length c∧(l≠[]→P x.block)∧RSs w P x l
theorem RS_eq (w:World) (P:Nat→Prop) (cs:List Value) (kind op:Int) (name:List UInt8) (exprs:List Ex) (body els:List St) :
  RS w P cs (.mk kind op name exprs body els) = ∃ E B C,cs=stRow kind op name E B C∧SlE w P E exprs∧SlS w P B body∧SlS w P C els:=by rw [RS]; rfl
def u8b (P:Nat→Prop) (w w':World):Prop:=∀ (p:Addr) (u:Value),P p.block→w.cell? p=some u→w'.cell? p=some u
theorem add_block (x:Addr) (j:Nat):(x.add j).block=x.block:=by unfold Addr.add; split <;> rfl
theorem At.keeps {P:Nat→Prop} {w w':World} {x:Addr} {cs:List Value} (h:At w x cs) (k:u8b P w w') (hx:P x.block):At w' x cs:=fun j u hu=>k _ u (by rw [add_block]; exact hx) (h j u hu)
mutual
theorem RE.keeps {P Q:Nat→Prop} {w w':World} (k:u8b P w w') (hPQ:∀ b,P b→Q b):(e:Ex)→∀ cs,RE w P cs e→RE w' Q cs e
 | .mk kind op num name kids,cs,h=>by
  rw [RE] at h ⊢
  obtain ⟨K,hc,hK⟩:=h
  refine ⟨K,hc,?_⟩
  rcases hK with hK | ⟨x,c,hK,hx,hr⟩
  ·exact .inl hK
  ·exact .inr ⟨x,c,hK,fun hn=>hPQ _ (hx hn),REs.keeps k hPQ kids x hx hr⟩
theorem REs.keeps {P Q:Nat→Prop} {w w':World} (k:u8b P w w') (hPQ:∀ b,P b→Q b):(l:List Ex)→∀ x:Addr,(l≠[]→P x.block)→REs w P x l→REs w' Q x l
 | [],_,_,_=>by rw [REs]; trivial
 | e :: r,x,hx,h=>by
  rw [REs] at h ⊢
  obtain ⟨⟨cs,ha,he⟩,hr⟩:=h
  exact ⟨⟨cs,ha.keeps k (hx (by simp)),RE.keeps k hPQ e cs he⟩,REs.keeps k hPQ r _ (fun _=>by rw [add_block]; exact hx (by simp)) hr⟩
end
theorem SlE.keeps {P Q:Nat→Prop} {w w':World} (k:u8b P w w') (hPQ:∀ b,P b→Q b) {K:Value} {l:List Ex} (h:SlE w P K l):SlE w' Q K l:=by
 rcases h with h | ⟨x,c,hK,hx,hr⟩
 ·exact .inl h
 ·exact .inr ⟨x,c,hK,fun hn=>hPQ _ (hx hn),REs.keeps k hPQ l x hx hr⟩
mutual
theorem RS.keeps {P Q:Nat→Prop} {w w':World} (k:u8b P w w') (hPQ:∀ b,P b→Q b):(s:St)→∀ cs,RS w P cs s→RS w' Q cs s
 | .mk kind op name exprs body els,cs,h=>by
  rw [RS] at h ⊢
  obtain ⟨E,B,C,hc,hE,hB,hC⟩:=h
  refine ⟨E,B,C,hc,hE.keeps k hPQ,?_,?_⟩
  ·rcases hB with hB | ⟨x,c,hB,hx,hr⟩
   ·exact .inl hB
   ·exact .inr ⟨x,c,hB,fun hn=>hPQ _ (hx hn),RSs.keeps k hPQ body x hx hr⟩
  ·rcases hC with hC | ⟨x,c,hC,hx,hr⟩
   ·exact .inl hC
   ·exact .inr ⟨x,c,hC,fun hn=>hPQ _ (hx hn),RSs.keeps k hPQ els x hx hr⟩
theorem RSs.keeps {P Q:Nat→Prop} {w w':World} (k:u8b P w w') (hPQ:∀ b,P b→Q b):(l:List St)→∀ x:Addr,(l≠[]→P x.block)→RSs w P x l→RSs w' Q x l
 | [],_,_,_=>by rw [RSs]; trivial
 | s :: r,x,hx,h=>by
  rw [RSs] at h ⊢
  obtain ⟨⟨cs,ha,he⟩,hr⟩:=h
  exact ⟨⟨cs,ha.keeps k (hx (by simp)),RS.keeps k hPQ s cs he⟩,RSs.keeps k hPQ r _ (fun _=>by rw [add_block]; exact hx (by simp)) hr⟩
end
theorem SlS.keeps {P Q:Nat→Prop} {w w':World} (k:u8b P w w') (hPQ:∀ b,P b→Q b) {K:Value} {l:List St} (h:SlS w P K l):SlS w' Q K l:=by
 rcases h with h | ⟨x,c,hK,hx,hr⟩
 ·exact .inl h
 ·exact .inr ⟨x,c,hK,fun hn=>hPQ _ (hx hn),RSs.keeps k hPQ l x hx hr⟩
theorem u0w {P:Nat→Prop} {w w':World} {B:Nat} (h:Below B w w') (hP:∀ b,P b→b<B):u8b P w w':=fun _ _ hp hu=>(h.cell (hP _ hp)).trans hu
theorem add_zero' (x:Addr):x.add 0=x:=by unfold Addr.add; split <;> simp_all
theorem REs.get {w:World} {P:Nat→Prop}:∀ (l:List Ex) (x:Addr),REs w P x l→∀ i e,l[i]? = some e→∃ cs,At w (x.add (i * 5)) cs∧RE w P cs e
 | [],_,_,_,_,h=>by simp at h
 | a :: r,x,h,i,e,hi=>by
  rw [REs] at h
  cases i with
  | zero=>simp at hi; subst hi; obtain ⟨cs,h1,h2⟩:=h.1; exact ⟨cs,by rw [Nat.zero_mul,add_zero']; exact h1,h2⟩
  | succ i =>
   obtain ⟨cs,h1,h2⟩:=REs.get r _ h.2 i e (by simpa using hi)
   rw [add_add] at h1
   exact ⟨cs,by rw [show (i+1) * 5=5+i * 5 by omega]; exact h1,h2⟩
theorem RSs.get {w:World} {P:Nat→Prop}:∀ (l:List St) (x:Addr),RSs w P x l→∀ i s,l[i]? = some s→∃ cs,At w (x.add (i * 6)) cs∧RS w P cs s
 | [],_,_,_,_,h=>by simp at h
 | a :: r,x,h,i,e,hi=>by
  rw [RSs] at h
  cases i with
  | zero=>simp at hi; subst hi; obtain ⟨cs,h1,h2⟩:=h.1; exact ⟨cs,by rw [Nat.zero_mul,add_zero']; exact h1,h2⟩
  | succ i =>
   obtain ⟨cs,h1,h2⟩:=RSs.get r _ h.2 i e (by simpa using hi)
   rw [add_add] at h1
   exact ⟨cs,by rw [show (i+1) * 6=6+i * 6 by omega]; exact h1,h2⟩
theorem RE.len {w:World} {P:Nat→Prop} {cs:List Value} {e:Ex} (h:RE w P cs e):cs.length=5:=by
 cases e with
 | mk=>rw [RE_eq] at h; obtain ⟨K,rfl,_⟩:=h; rfl
theorem RS.len {w:World} {P:Nat→Prop} {cs:List Value} {s:St} (h:RS w P cs s):cs.length=6:=by
 cases s with
 | mk=>rw [RS_eq] at h; obtain ⟨E,B,C,rfl,_⟩:=h; rfl
end Go.Proofs.YtbkhnilbgocpnaaGreatDoor.SynC
