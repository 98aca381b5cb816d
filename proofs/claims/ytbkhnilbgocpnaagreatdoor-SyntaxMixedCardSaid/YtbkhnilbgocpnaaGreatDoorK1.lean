import Derived.Test.YtbkhnilbgocpnaaGreatDoorK0
set_option linter.unusedVariables false
set_option linter.unusedSimpArgs false
set_option maxRecDepth 100000
set_option maxHeartbeats 2000000
namespace Go.Proofs.YtbkhnilbgocpnaaGreatDoor.SynC
abbrev K:=Int × List UInt8 × Int
def sg (s:List UInt8):K:=(2,s,0)
def isS (s:List UInt8) (t:K):Bool:=t.1 == 2&&t.2.1 == s
theorem isS_sg (s t:List UInt8):isS s (sg t)=(t == s):=by simp [isS,sg]
inductive Ex where
 | mk (kind op num:Int) (name:List UInt8) (kids:List Ex)
inductive Res (α:Type) where
 | ok (a:α) (r:List K)
 | no (r:List K)
def Res.bind {α β:Type} (x:Res α) (f:α→List K→Res β):Res β :=
 match x with
 | .ok a r=>f a r
 | .no r=>.no r
theorem u1l {α β:Type} {x:Res α} {f g:α→List K→Res β} (h:∀ a r,x=.ok a r→f a r=g a r):x.bind f=x.bind g:=by
 cases x with
 | ok a r=>exact h a r rfl
 | no r=>rfl
theorem u0q {α β:Type} {x:Res α} {f:α→List K→Res β} {b:β} {r:List K} (h:x.bind f=.ok b r):∃ a q,x=.ok a q∧f a q=.ok b r:=by
 cases x with
 | ok a q=>exact ⟨a,q,rfl,h⟩
 | no q=>cases h
def need {β:Type} (s:List UInt8) (l:List K) (f:List K→Res β):Res β :=
 match l with
 | t :: r=>if isS s t then f r else .no l
 | []=>.no []
theorem need_congr {β:Type} {s:List UInt8} {l:List K} {f g:List K→Res β} (h:∀ t r,l=t :: r→f r=g r):need s l f=need s l g:=by
 cases l with
 | nil=>rfl
 | cons t r=>unfold need; simp only; rw [h t r rfl]
theorem u1b {β:Type} {s:List UInt8} {l:List K} {f:List K→Res β} {b:β} {q:List K} (h:need s l f=.ok b q):∃ t r,l=t :: r∧isS s t=true∧f r=.ok b q:=by
 cases l with
 | nil=>cases h
 | cons t r =>
  unfold need at h
  simp only at h
  split at h
  ·rename_i ht; exact ⟨t,r,rfl,ht,h⟩
  ·cases h
theorem u1i {β:Type} {s:List UInt8} {t:K} {r:List K} {f:List K→Res β} (h:isS s t=true):need s (t :: r) f=f r:=by
 unfold need; simp only; rw [if_pos h]
def lev:Nat→List (List UInt8 × Int)
 | 1=>[([124,124],17)]
 | 2=>[([38,38],16)]
 | 3=>[([124],6)]
 | 4=>[([94],7)]
 | 5=>[([38],5)]
 | 6=>[([61,61],13),([33,61],14)]
 | 7=>[([60],11),([60,61],12),([62],11),([62,61],12),([60,58],15)]
 | 8=>[([60,60],8),([62,62],9),([62,62,62],10)]
 | 9=>[([43],0),([45],1)]
 | _=>[([42],2),([47],3),([37],4)]
def opOf (n:Nat) (t:K):Option Int:=if t.1 == 2 then (lev n).lookup t.2.1 else none
def bin (op:Int) (s:List UInt8) (a b:Ex):Ex:=if s == [62] || s == [62,61] then .mk 4 op 0 [] [b,a] else .mk 4 op 0 [] [a,b]
def unOf (t:K):Option Int:=if t.1 == 2 then [([45],(0:Int)),([126],1),([33],2)].lookup t.2.1 else none
def spOf (t:K):Option Int:=if t.1 == 2 then [([116,105,100],(0:Int)),([98,105,100],1),([100,105,109],2),([103,114,105,100],3)].lookup t.2.1 else none
def mmOf (t:K):Option Int:=if t.1 == 2 then [([109,105,110],(18:Int)),([109,97,120],19)].lookup t.2.1 else none
inductive Cmd where
 | ex (n:Nat)
 | tail (n:Nat) (a:Ex)
 | un
 | prim
 | named (x:List UInt8)
 | args (x:List UInt8) (kids:List Ex)
abbrev Rec:=Cmd→List K→Res Ex
def step (p:Rec):Cmd→List K→Res Ex
 | .ex n,l=>if 10<n then p .un l else (p (.ex (n+1)) l).bind fun a r=>p (.tail n a) r
 | .tail n a,l =>
  match l with
  | []=>.ok a []
  | t :: r =>
   match opOf n t with
   | some op=>(p (.ex (n+1)) r).bind fun b q=>p (.tail n (bin op t.2.1 a b)) q
   | none=>.ok a (t :: r)
 | .un,l =>
  match l with
  | []=>p .prim []
  | t :: r =>
   match unOf t with
   | some op=>(p .un r).bind fun a q=>.ok (.mk 3 op 0 [] [a]) q
   | none=>p .prim (t :: r)
 | .prim,l =>
  match l with
  | []=>.no []
  | t :: r =>
   if t.1 == 1 then .ok (.mk 0 0 t.2.2 [] []) r
   else if t.1 == 0 then p (.named t.2.1) r
   else
    match mmOf t with
    | some op=>need [40] r fun r1=>(p (.ex 1) r1).bind fun a r2=>need [44] r2 fun r3=>(p (.ex 1) r3).bind fun b r4=>need [41] r4 fun r5=>.ok (.mk 4 op 0 [] [a,b]) r5
    | none =>
     match spOf t with
     | some i=>.ok (.mk 2 i 0 [] []) r
     | none=>need [40] (t :: r) fun r1=>(p (.ex 1) r1).bind fun e r2=>need [41] r2 fun r3=>.ok e r3
 | .named x,l =>
  match l with
  | []=>.ok (.mk 1 0 0 x []) []
  | t :: r =>
   if isS [91] t then (p (.ex 1) r).bind fun e r2=>need [93] r2 fun r3=>.ok (.mk 5 0 0 x [e]) r3
   else if isS [40] t then
    match r with
    | []=>(p (.ex 1) []).bind fun e r2=>p (.args x [e]) r2
    | u :: q=>if isS [41] u then .ok (.mk 6 0 0 x []) q else (p (.ex 1) (u :: q)).bind fun e r2=>p (.args x [e]) r2
   else .ok (.mk 1 0 0 x []) (t :: r)
 | .args x kids,l =>
  match l with
  | []=>.no []
  | t :: r =>
   if isS [44] t then (p (.ex 1) r).bind fun e r2=>p (.args x (kids++[e])) r2
   else if isS [41] t then .ok (.mk 6 0 0 x kids) r
   else .no (t :: r)
def go:Nat→Rec
 | 0=>fun _ l=>.no l
 | f+1=>step (go f)
def wt:Cmd→Nat
 | .ex n=>3+(12 - n)
 | .un=>2
 | .prim=>1
 | _=>0
def mu (c:Cmd) (l:List K):Nat:=16 * l.length+wt c
def dl:Cmd→Nat
 | .ex _=>1
 | .un=>1
 | .prim=>1
 | _=>0
def LenP (p:Rec):Prop:=∀ c l a r,p c l=.ok a r→r.length+dl c≤l.length
theorem step_len {p:Rec} (h:LenP p):LenP (step p):=by
 intro c l a r e
 cases c with
 | ex n =>
  simp only [step] at e
  split at e
  ·have h1:=h _ _ _ _ e
   simp only [dl] at *
   omega
  ·obtain ⟨b,q,e1,e2⟩:=u0q e
   have h1:=h _ _ _ _ e1
   have h2:=h _ _ _ _ e2
   simp only [dl] at *
   omega
 | tail n x =>
  simp only [step] at e
  split at e
  ·cases e; simp [dl]
  ·split at e
   ·obtain ⟨b,q,e1,e2⟩:=u0q e
    have h1:=h _ _ _ _ e1
    have h2:=h _ _ _ _ e2
    simp only [dl,List.length_cons] at *
    omega
   ·cases e; simp [dl]
 | un =>
  simp only [step] at e
  split at e
  ·have h1:=h _ _ _ _ e
   simp only [dl] at *
   omega
  ·split at e
   ·obtain ⟨b,q,e1,e2⟩:=u0q e
    have h1:=h _ _ _ _ e1
    cases e2
    simp only [dl,List.length_cons] at *
    omega
   ·have h1:=h _ _ _ _ e
    simp only [dl] at *
    omega
 | prim =>
  simp only [step] at e
  split at e
  ·cases e
  ·split at e
   ·cases e; simp [dl]
   ·split at e
    ·have h1:=h _ _ _ _ e
     simp only [dl,List.length_cons] at *
     omega
    ·split at e
     ·obtain ⟨t1,r1,rfl,_,e⟩:=u1b e
      obtain ⟨b,q,e1,e⟩:=u0q e
      obtain ⟨t2,r2,rfl,_,e⟩:=u1b e
      obtain ⟨b2,q2,e2,e⟩:=u0q e
      obtain ⟨t3,r3,rfl,_,e⟩:=u1b e
      have h1:=h _ _ _ _ e1
      have h2:=h _ _ _ _ e2
      cases e
      simp only [dl,List.length_cons] at *
      omega
     ·split at e
      ·cases e; simp [dl]
      ·obtain ⟨t1,r1,e0,_,e⟩:=u1b e
       cases e0
       obtain ⟨b,q,e1,e⟩:=u0q e
       obtain ⟨t2,r2,rfl,_,e⟩:=u1b e
       have h1:=h _ _ _ _ e1
       cases e
       simp only [dl,List.length_cons] at *
       omega
 | named x =>
  simp only [step] at e
  split at e
  ·cases e; simp [dl]
  ·split at e
   ·obtain ⟨b,q,e1,e⟩:=u0q e
    obtain ⟨t2,r2,rfl,_,e⟩:=u1b e
    have h1:=h _ _ _ _ e1
    cases e
    simp only [dl,List.length_cons] at *
    omega
   ·split at e
    ·split at e
     ·obtain ⟨b,q,e1,e⟩:=u0q e
      have h1:=h _ _ _ _ e1
      have h2:=h _ _ _ _ e
      simp only [dl,List.length_cons,List.length_nil] at *
      omega
     ·split at e
      ·cases e; simp [dl]; omega
      ·obtain ⟨b,q,e1,e⟩:=u0q e
       have h1:=h _ _ _ _ e1
       have h2:=h _ _ _ _ e
       simp only [dl,List.length_cons] at *
       omega
    ·cases e; simp [dl]
 | args x kids =>
  simp only [step] at e
  split at e
  ·cases e
  ·split at e
   ·obtain ⟨b,q,e1,e⟩:=u0q e
    have h1:=h _ _ _ _ e1
    have h2:=h _ _ _ _ e
    simp only [dl,List.length_cons] at *
    omega
   ·split at e
    ·cases e; simp [dl]
    ·cases e
theorem go_len:∀ f,LenP (go f)
 | 0=>fun _ _ _ _ h=>by cases h
 | f+1=>step_len (go_len f)
theorem step_congr {p q:Rec} (c:Cmd) (l:List K) (hl:LenP q) (h:∀ c' l',mu c' l' < mu c l→p c' l'=q c' l'):step p c l=step q c l:=by
 cases c with
 | ex n =>
  simp only [step]
  split
  ·exact h _ _ (by simp only [mu,wt]; omega)
  ·rw [h (.ex (n+1)) l (by simp only [mu,wt]; omega)]
   refine u1l fun a r e=>h _ _ ?_
   have:=hl _ _ _ _ e
   simp only [dl,mu,wt] at *
   omega
 | tail n x =>
  simp only [step]
  split
  ·rfl
  ·split
   ·rename_i t r _ op _
    rw [h (.ex (n+1)) r (by simp only [mu,wt,List.length_cons]; omega)]
    refine u1l fun a r e=>h _ _ ?_
    have:=hl _ _ _ _ e
    simp only [dl,mu,wt,List.length_cons] at *
    omega
   ·rfl
 | un =>
  simp only [step]
  split
  ·exact h _ _ (by simp only [mu,wt]; omega)
  ·split
   ·rename_i t r _ op _
    rw [h .un r (by simp only [mu,wt,List.length_cons]; omega)]
   ·exact h _ _ (by simp only [mu,wt]; omega)
 | prim =>
  simp only [step]
  split
  ·rfl
  ·rename_i t r
   split
   ·rfl
   ·split
    ·exact h _ _ (by simp only [mu,wt,List.length_cons]; omega)
    ·split
     ·refine need_congr fun t1 r1 e1=>?_
      subst e1
      rw [h (.ex 1) r1 (by simp only [mu,wt,List.length_cons]; omega)]
      refine u1l fun a r2 e2=>need_congr fun t3 r3 e3=>?_
      have h2:=hl _ _ _ _ e2
      subst e3
      rw [h (.ex 1) r3 (by simp only [dl,mu,wt,List.length_cons] at *; omega)]
     ·split
      ·rfl
      ·refine need_congr fun t1 r1 e1=>?_
       cases e1
       rw [h (.ex 1) r (by simp only [mu,wt,List.length_cons]; omega)]
 | named x =>
  simp only [step]
  split
  ·rfl
  ·rename_i t r
   split
   ·rw [h (.ex 1) r (by simp only [mu,wt,List.length_cons]; omega)]
   ·split
    ·split
     ·rw [h (.ex 1) [] (by simp only [mu,wt,List.length_cons,List.length_nil]; omega)]
      refine u1l fun a r2 e2=>h _ _ ?_
      have h2:=hl _ _ _ _ e2
      simp only [dl,mu,wt,List.length_cons,List.length_nil] at *
      omega
     ·rename_i u q
      split
      ·rfl
      ·rw [h (.ex 1) (u :: q) (by simp only [mu,wt,List.length_cons]; omega)]
       refine u1l fun a r2 e2=>h _ _ ?_
       have h2:=hl _ _ _ _ e2
       simp only [dl,mu,wt,List.length_cons] at *
       omega
    ·rfl
 | args x kids =>
  simp only [step]
  split
  ·rfl
  ·rename_i t r
   split
   ·rw [h (.ex 1) r (by simp only [mu,wt,List.length_cons]; omega)]
    refine u1l fun a r2 e2=>h _ _ ?_
    have h2:=hl _ _ _ _ e2
    simp only [dl,mu,wt,List.length_cons] at *
    omega
   ·rfl
theorem go_stable:∀ f g c l,mu c l<f→mu c l<g→go f c l=go g c l
 | 0,_,_,_,h,_=>absurd h (Nat.not_lt_zero _)
 | _+1,0,_,_,_,h=>absurd h (Nat.not_lt_zero _)
 | f+1,g+1,c,l,hf,hg=>step_congr c l (go_len g) fun c' l' h=>go_stable f g c' l' (by omega) (by omega)
def PE (c:Cmd) (l:List K):Res Ex:=go (mu c l+1) c l
theorem go_PE {f:Nat} {c:Cmd} {l:List K} (h:mu c l<f):go f c l=PE c l:=go_stable _ _ c l h (Nat.lt_succ_self _)
theorem PE_len:LenP PE:=fun c l a r h=>go_len _ c l a r h
theorem u2j (c:Cmd) (l:List K):PE c l=step PE c l:=by
 show step (go (mu c l)) c l=_
 exact step_congr c l PE_len fun c' l' h=>go_PE h
def u1h:List (List K)→List K
 | []=>[]
 | t :: r=>t++r.flatMap fun u=>sg [44] :: u
def u3i (op:Int):List UInt8 :=
 if op=0 then [43] else if op=1 then [45] else if op=2 then [42] else if op=3 then [47] else if op=4 then [37] else if op=5 then [38] else if op=6 then [124] else if op=7 then [94]
 else if op=8 then [60,60] else if op=9 then [62,62] else if op=10 then [62,62,62] else if op=11 then [60] else if op=12 then [60,61] else if op=13 then [61,61] else if op=14 then [33,61]
 else if op=15 then [60,58] else if op=16 then [38,38] else if op=17 then [124,124] else if op=18 then [109,105,110] else [109,97,120]
def unText (op:Int):List UInt8:=if op=0 then [45] else if op=1 then [126] else [33]
def spText (op:Int):List UInt8:=if op=0 then [116,105,100] else if op=1 then [98,105,100] else if op=2 then [100,105,109] else [103,114,105,100]
def u2b (dg:Int→List UInt8) (kind op num:Int) (name:List UInt8) (ks:List (List K)):List K :=
 if kind=0 then [(1,dg num,num)]
 else if kind=2 then [sg (spText op)]
 else if kind=3 then sg (unText op) :: ks.getD 0 []
 else if kind=4 then
  if op=18∨op=19 then sg (u3i op) :: sg [40] :: (ks.getD 0 []++sg [44] :: (ks.getD 1 []++[sg [41]]))
  else sg [40] :: (ks.getD 0 []++sg (u3i op) :: (ks.getD 1 []++[sg [41]]))
 else if kind=5 then (0,name,0) :: sg [91] :: (ks.getD 0 []++[sg [93]])
 else if kind=6 then (0,name,0) :: sg [40] :: (u1h ks++[sg [41]])
 else [(0,name,0)]
mutual
def tE (dg:Int→List UInt8):Ex→List K
 | .mk kind op num name kids=>u2b dg kind op num name (tEs dg kids)
def tEs (dg:Int→List UInt8):List Ex→List (List K)
 | []=>[]
 | e :: r=>tE dg e :: tEs dg r
end
theorem tEs_map (dg:Int→List UInt8):∀ l:List Ex,tEs dg l=l.map (tE dg)
 | []=>by rw [tEs]; rfl
 | e :: r=>by rw [tEs,tEs_map dg r]; rfl
def u3y (nm:List UInt8→Bool) (kind op num:Int) (name:List UInt8) (n:Nat):Bool :=
 if kind=0 then op == 0&&name.isEmpty&&(decide (0≤num∧num<2147483648) || num == -2147483648)&&n == 0
 else if kind=1 then op == 0&&nm name&&num == 0&&n == 0
 else if kind=2 then decide (0≤op∧op<4)&&name.isEmpty&&num == 0&&n == 0
 else if kind=3 then decide (0≤op∧op<3)&&name.isEmpty&&num == 0&&n == 1
 else if kind=4 then decide (0≤op∧op<20)&&name.isEmpty&&num == 0&&n == 2
 else if kind=5 then op == 0&&nm name&&num == 0&&n == 1
 else if kind=6 then op == 0&&nm name&&num == 0&&decide (n≤6)
 else false
mutual
def okE (nm:List UInt8→Bool):Ex→Bool
 | .mk kind op num name kids=>u3y nm kind op num name kids.length&&okEs nm kids
def okEs (nm:List UInt8→Bool):List Ex→Bool
 | []=>true
 | e :: r=>okE nm e&&okEs nm r
end
def NoOp (n m:Nat) (r:List K):Prop:=∀ k,n≤k→k<m→∀ t q,r=t :: q→opOf k t=none
theorem lower {m:Nat} {l r:List K} {x:Ex} (hm:m≤11) (h:PE (.ex m) l=.ok x r):∀ d n,n+d=m→NoOp n m r→PE (.ex n) l=.ok x r
 | 0,n,e,_=>by rw [Nat.add_zero] at e; subst e; exact h
 | d+1,n,e,hn=>by
  have h1:=lower hm h d (n+1) (by omega) (fun k hk=>hn k (by omega))
  rw [u2j,step,if_neg (by omega),h1]
  show PE (.tail n x) r=_
  rw [u2j]
  cases r with
  | nil=>rfl
  | cons t q =>
   have:=hn n (Nat.le_refl _) (by omega) t q rfl
   simp only [step,this]
theorem ex11 (l:List K):PE (.ex 11) l=PE .un l:=by rw [u2j,step,if_pos (by omega)]
theorem lift {l r:List K} {x:Ex} {n:Nat} (hn:n≤11) (h:PE .un l=.ok x r) (ho:NoOp n 11 r):PE (.ex n) l=.ok x r :=
 lower (m:=11) (Nat.le_refl _) (by rw [ex11]; exact h) (11 - n) n (by omega) ho
def Stop (s:List UInt8):Prop:=s=[41]∨s=[93]∨s=[44]∨s=[59]∨s=[123]
theorem stop_op {s:List UInt8} (h:Stop s):∀ k,opOf k (sg s)=none:=by
 intro k
 have hk:k=1∨k=2∨k=3∨k=4∨k=5∨k=6∨k=7∨k=8∨k=9∨(lev k=[([42],2),([47],3),([37],4)]):=by
  by_cases h9:k≤9
  ·by_cases h0:k=0
   ·subst h0; simp [lev]
   ·omega
  ·refine .inr (.inr (.inr (.inr (.inr (.inr (.inr (.inr (.inr ?_))))))))
   unfold lev
   split <;> first | omega | rfl
 rcases h with rfl | rfl | rfl | rfl | rfl
 all_goals
  rcases hk with rfl | rfl | rfl | rfl | rfl | rfl | rfl | rfl | rfl | hk
  all_goals first | rfl | (unfold opOf; rw [hk]; rfl)
theorem noOp_stop {s:List UInt8} (h:Stop s) (n m:Nat) (q:List K):NoOp n m (sg s :: q):=fun k _ _ t q' e=>by
 cases e; exact stop_op h k
def NoOpen (r:List K):Prop:=∀ t q,r=t :: q→isS [91] t=false∧isS [40] t=false
theorem noOpen_stop {s:List UInt8} (h:Stop s) (q:List K):NoOpen (sg s :: q):=fun t q' e=>by
 cases e
 rcases h with rfl | rfl | rfl | rfl | rfl <;> exact ⟨rfl,rfl⟩
def lvl (op:Int):Nat :=
 if op=0∨op=1 then 9 else if op=2∨op=3∨op=4 then 10 else if op=5 then 5 else if op=6 then 3 else if op=7 then 4 else if op=8∨op=9∨op=10 then 8
 else if op=13∨op=14 then 6 else if op=16 then 2 else if op=17 then 1 else 7
theorem op_cases {op:Int} (h0:0≤op) (h1:op<18):op=0∨op=1∨op=2∨op=3∨op=4∨op=5∨op=6∨op=7∨op=8∨op=9∨op=10∨op=11∨op=12∨op=13∨op=14∨op=15∨op=16∨op=17:=by omega
theorem op_facts {op:Int} (h0:0≤op) (h1:op<18):opOf (lvl op) (sg (u3i op))=some op∧1≤lvl op∧lvl op≤10∧isS [91] (sg (u3i op))=false∧isS [40] (sg (u3i op))=false ∧
  (∀ a b,bin op (sg (u3i op)).2.1 a b=.mk 4 op 0 [] [a,b])∧∀ k,k∈List.range' 1 10→k≠lvl op→opOf k (sg (u3i op))=none:=by
 rcases op_cases h0 h1 with rfl | rfl | rfl | rfl | rfl | rfl | rfl | rfl | rfl | rfl | rfl | rfl | rfl | rfl | rfl | rfl | rfl | rfl
 all_goals exact ⟨rfl,by decide,by decide,rfl,rfl,fun _ _=>rfl,by decide⟩
theorem noOp_sign {op:Int} (h0:0≤op) (h1:op<18) (q:List K):NoOp (lvl op+1) 11 (sg (u3i op) :: q):=fun k hk hm t q' e=>by
 cases e
 exact (op_facts h0 h1).2.2.2.2.2.2 k (by simp; omega) (by omega)
theorem infix_back {op:Int} (h0:0≤op) (h1:op<18) {ta tb r:List K} {a b:Ex} {s:List UInt8} (hs:Stop s)
  (ha:∀ q,NoOpen q→PE .un (ta++q)=.ok a q) (hb:∀ q,NoOpen q→PE .un (tb++q)=.ok b q) :
  PE (.ex 1) (ta++sg (u3i op) :: (tb++sg s :: r))=.ok (.mk 4 op 0 [] [a,b]) (sg s :: r):=by
 obtain ⟨f1,f2,f3,f4,f5,f6,f7⟩:=op_facts h0 h1
 have e1:=lift (n:=lvl op+1) (by omega) (ha (sg (u3i op) :: (tb++sg s :: r)) (fun t q e=>by cases e; exact ⟨f4,f5⟩)) (noOp_sign h0 h1 _)
 have e2:=lift (n:=lvl op+1) (by omega) (hb (sg s :: r) (noOpen_stop hs r)) (noOp_stop hs _ _ _)
 have e3:PE (.ex (lvl op)) (ta++sg (u3i op) :: (tb++sg s :: r))=.ok (.mk 4 op 0 [] [a,b]) (sg s :: r):=by
  rw [u2j,step,if_neg (by omega),e1]
  show PE (.tail (lvl op) a) (sg (u3i op) :: (tb++sg s :: r))=_
  rw [u2j]
  simp only [step,f1]
  rw [e2]
  show PE (.tail (lvl op) (bin op (sg (u3i op)).2.1 a b)) (sg s :: r)=_
  rw [f6,u2j]
  simp only [step,stop_op hs]
 exact lower (by omega) e3 (lvl op - 1) 1 (by omega) (noOp_stop hs _ _ _)
def PB (dg:Int→List UInt8) (e:Ex):Prop:=∀ q,NoOpen q→PE .un (tE dg e++q)=.ok e q
theorem PB.ex1 {dg:Int→List UInt8} {e:Ex} (h:PB dg e) {s:List UInt8} (hs:Stop s) (q:List K):PE (.ex 1) (tE dg e++sg s :: q)=.ok e (sg s :: q) :=
 lift (by omega) (h _ (noOpen_stop hs q)) (noOp_stop hs _ _ _)
theorem args_back (dg:Int→List UInt8) (x:List UInt8) (r:List K):∀ (es ks:List Ex),(∀ e∈es,PB dg e) →
  PE (.args x ks) ((es.map (tE dg)).flatMap (fun u=>sg [44] :: u)++sg [41] :: r)=.ok (.mk 6 0 0 x (ks++es)) r
 | [],ks,_=>by rw [u2j]; simp [step,isS_sg]
 | e :: es,ks,h=>by
  have he:=h e (by simp)
  have ih:=args_back dg x r es (ks++[e]) (fun u hu=>h u (by simp [hu]))
  rw [u2j]
  simp only [List.map_cons,List.flatMap_cons,List.cons_append,List.append_assoc,step]
  rw [if_pos (by rw [isS_sg]; rfl)]
  have hst:∃ s q,Stop s∧(es.map (tE dg)).flatMap (fun u=>sg [44] :: u)++sg [41] :: r=sg s :: q:=by
   cases es with
   | nil=>exact ⟨[41],_,.inl rfl,rfl⟩
   | cons u us=>exact ⟨[44],_,.inr (.inr (.inl rfl)),rfl⟩
  obtain ⟨s,q,hs,eq⟩:=hst
  rw [eq] at ih ⊢
  rw [he.ex1 hs q]
  show PE (.args x (ks++[e])) (sg s :: q)=_
  rw [ih]; simp
theorem two_kids {l:List Ex} (h:l.length=2):∃ a b,l=[a,b]:=by
 match l,h with
 | [a,b],_=>exact ⟨a,b,rfl⟩
theorem head_E (nm:List UInt8→Bool) (dg:Int→List UInt8) (e:Ex) (h:okE nm e=true):∃ u y,tE dg e=u :: y∧isS [41] u=false:=by
 cases e with
 | mk kind op num name kids =>
  rw [okE,Bool.and_eq_true] at h
  obtain ⟨hs,_⟩:=h
  rw [tE]
  unfold u3y at hs
  unfold u2b
  by_cases k0:kind=0
  ·rw [if_pos k0]; exact ⟨_,_,rfl,by simp [isS]⟩
  rw [if_neg k0] at hs ⊢
  by_cases k1:kind=1
  ·subst k1; exact ⟨(0,name,0),[],rfl,rfl⟩
  rw [if_neg k1] at hs
  by_cases k2:kind=2
  ·rw [if_pos k2]
   refine ⟨_,_,rfl,?_⟩
   rw [isS_sg]; unfold spText
   repeat' split
   all_goals rfl
  rw [if_neg k2] at hs ⊢
  by_cases k3:kind=3
  ·rw [if_pos k3]
   refine ⟨_,_,rfl,?_⟩
   rw [isS_sg]; unfold unText
   repeat' split
   all_goals rfl
  rw [if_neg k3] at hs ⊢
  by_cases k4:kind=4
  ·rw [if_pos k4]
   by_cases hm:op=18∨op=19
   ·rw [if_pos hm]
    refine ⟨_,_,rfl,?_⟩
    rcases hm with rfl | rfl <;> rfl
   ·rw [if_neg hm]; exact ⟨_,_,rfl,rfl⟩
  rw [if_neg k4] at hs ⊢
  by_cases k5:kind=5
  ·rw [if_pos k5]; exact ⟨_,_,rfl,rfl⟩
  rw [if_neg k5] at hs ⊢
  by_cases k6:kind=6
  ·rw [if_pos k6]; exact ⟨_,_,rfl,rfl⟩
  rw [if_neg k6]; exact ⟨_,_,rfl,rfl⟩
mutual
theorem back_E (nm:List UInt8→Bool) (dg:Int→List UInt8):(e:Ex)→okE nm e=true→PB dg e
 | .mk kind op num name kids,hok=>by
  rw [okE,Bool.and_eq_true] at hok
  obtain ⟨hsh,hks⟩:=hok
  have hk:=back_Es nm dg kids hks
  intro q hq
  rw [tE,tEs_map]
  unfold u3y at hsh
  by_cases k0:kind=0
  ·subst k0
   simp at hsh
   obtain ⟨⟨⟨rfl,rfl⟩,_⟩,hn⟩:=hsh
   obtain rfl:=List.eq_nil_of_length_eq_zero (by simpa using hn)
   rw [u2j]; simp only [u2b,if_true,List.cons_append,List.nil_append,step]
   have hu:unOf (1,dg num,num)=none:=rfl
   simp only [hu]
   rw [u2j]; simp [step]
  rw [if_neg k0] at hsh
  by_cases k1:kind=1
  ·subst k1
   simp at hsh
   obtain ⟨⟨⟨rfl,_⟩,rfl⟩,hn⟩:=hsh
   obtain rfl:=List.eq_nil_of_length_eq_zero (by simpa using hn)
   have hb:u2b dg 1 0 0 name (([]:List Ex).map (tE dg))=[(0,name,0)]:=by simp [u2b]
   rw [hb,u2j]
   have hu:unOf (0,name,0)=none:=rfl
   simp only [List.cons_append,List.nil_append,step,hu]
   rw [u2j]; simp only [step]
   rw [if_neg (by decide),if_pos (by decide),u2j]
   cases q with
   | nil=>rfl
   | cons t r=>simp only [step]; rw [if_neg (by simp [(hq t r rfl).1]),if_neg (by simp [(hq t r rfl).2])]
  rw [if_neg k1] at hsh
  by_cases k2:kind=2
  ·subst k2
   simp at hsh
   obtain ⟨⟨⟨⟨h0,h1⟩,rfl⟩,rfl⟩,hn⟩:=hsh
   obtain rfl:=List.eq_nil_of_length_eq_zero (by simpa using hn)
   have h4:op=0∨op=1∨op=2∨op=3:=by omega
   rw [u2j]
   rcases h4 with rfl | rfl | rfl | rfl
   all_goals
    show PE .prim _=_
    rw [u2j]; rfl
  rw [if_neg k2] at hsh
  by_cases k3:kind=3
  ·subst k3
   simp at hsh
   obtain ⟨⟨⟨⟨h0,h1⟩,rfl⟩,rfl⟩,hn⟩:=hsh
   obtain ⟨e,rfl⟩:=List.length_eq_one_iff.1 hn
   have he:=hk e (by simp) q hq
   have hb:u2b dg 3 op 0 [] ([e].map (tE dg))=sg (unText op) :: tE dg e:=by simp [u2b]
   have hu:unOf (sg (unText op))=some op:=by
    have h3:op=0∨op=1∨op=2:=by omega
    rcases h3 with rfl | rfl | rfl <;> rfl
   rw [hb,u2j]
   simp only [List.cons_append,step,hu]
   rw [he]; rfl
  rw [if_neg k3] at hsh
  by_cases k4:kind=4
  ·subst k4
   simp at hsh
   obtain ⟨⟨⟨⟨h0,h1⟩,rfl⟩,rfl⟩,hn⟩:=hsh
   obtain ⟨a,b,rfl⟩:=two_kids hn
   have ha:=hk a (by simp)
   have hb:=hk b (by simp)
   by_cases hmm:op=18∨op=19
   ·have hbt:u2b dg 4 op 0 [] ([a,b].map (tE dg))=sg (u3i op) :: sg [40] :: (tE dg a++sg [44] :: (tE dg b++[sg [41]])):=by simp [u2b,hmm]
    have hu:unOf (sg (u3i op))=none:=by rcases hmm with rfl | rfl <;> rfl
    have hm:mmOf (sg (u3i op))=some op:=by rcases hmm with rfl | rfl <;> rfl
    rw [hbt,u2j]
    simp only [List.cons_append,List.append_assoc,List.nil_append,step,hu]
    rw [u2j]
    simp only [step]
    rw [if_neg (by rcases hmm with rfl | rfl <;> decide),if_neg (by rcases hmm with rfl | rfl <;> decide)]
    simp only [hm]
    rw [u1i rfl,ha.ex1 (.inr (.inr (.inl rfl))) _]
    simp only [Res.bind]
    rw [u1i rfl,hb.ex1 (.inl rfl) q]
    show need [41] (sg [41] :: q) _=_
    rw [u1i rfl]
   ·have hbt:u2b dg 4 op 0 [] ([a,b].map (tE dg))=sg [40] :: (tE dg a++sg (u3i op) :: (tE dg b++[sg [41]])):=by simp [u2b,hmm]
    rw [hbt,u2j]
    simp only [List.cons_append,List.append_assoc,List.nil_append,step]
    have hu:unOf (sg [40])=none:=rfl
    simp only [hu]
    rw [u2j]
    simp only [step]
    rw [if_neg (by decide),if_neg (by decide)]
    have hm:mmOf (sg [40])=none:=rfl
    have hp:spOf (sg [40])=none:=rfl
    simp only [hm,hp]
    rw [u1i rfl,infix_back h0 (by omega) (.inl rfl) ha hb]
    show need [41] (sg [41] :: q) _=_
    rw [u1i rfl]
  rw [if_neg k4] at hsh
  by_cases k5:kind=5
  ·subst k5
   simp at hsh
   obtain ⟨⟨⟨rfl,_⟩,rfl⟩,hn⟩:=hsh
   obtain ⟨e,rfl⟩:=List.length_eq_one_iff.1 hn
   have he:=hk e (by simp)
   have hbt:u2b dg 5 0 0 name ([e].map (tE dg))=(0,name,0) :: sg [91] :: (tE dg e++[sg [93]]):=by simp [u2b]
   have hu:unOf (0,name,0)=none:=rfl
   rw [hbt,u2j]
   simp only [List.cons_append,List.append_assoc,List.nil_append,step,hu]
   rw [u2j]; simp only [step]
   rw [if_neg (by decide),if_pos (by decide),u2j]
   simp only [step]
   rw [if_pos (by decide),he.ex1 (.inr (.inl rfl)) q]
   show need [93] (sg [93] :: q) _=_
   rw [u1i rfl]
  rw [if_neg k5] at hsh
  by_cases k6:kind=6
  ·subst k6
   simp at hsh
   obtain ⟨⟨⟨rfl,_⟩,rfl⟩,hn⟩:=hsh
   have hbt:u2b dg 6 0 0 name (kids.map (tE dg))=(0,name,0) :: sg [40] :: (u1h (kids.map (tE dg))++[sg [41]]):=by simp [u2b]
   have hu:unOf (0,name,0)=none:=rfl
   rw [hbt,u2j]
   simp only [List.cons_append,List.append_assoc,List.nil_append,step,hu]
   rw [u2j]; simp only [step]
   rw [if_neg (by decide),if_pos (by decide),u2j]
   simp only [step]
   rw [if_neg (by decide),if_pos (by decide)]
   cases kids with
   | nil=>rfl
   | cons e es =>
    have he:=hk e (by simp)
    have hargs:=args_back dg name q es [e] (fun u hu=>hk u (by simp [hu]))
    have hst:∃ s z,Stop s∧(es.map (tE dg)).flatMap (fun u=>sg [44] :: u)++sg [41] :: q=sg s :: z:=by
     cases es with
     | nil=>exact ⟨[41],_,.inl rfl,rfl⟩
     | cons u us=>exact ⟨[44],_,.inr (.inr (.inl rfl)),rfl⟩
    obtain ⟨s,z,hs,eq⟩:=hst
    have e1:u1h ((e :: es).map (tE dg))++sg [41] :: q=tE dg e++sg s :: z:=by
     simp only [u1h,List.map_cons,List.append_assoc]
     rw [eq]
    rw [e1]
    rw [eq] at hargs
    have hex:=he.ex1 hs z
    obtain ⟨u,y,e2,e3⟩:=head_E nm dg e (by rw [okEs,Bool.and_eq_true] at hks; exact hks.1)
    rw [e2,List.cons_append] at hex ⊢
    simp only [e3]
    rw [if_neg (by decide),hex]
    show PE (.args name [e]) (sg s :: z)=_
    rw [hargs]; rfl
  rw [if_neg k6] at hsh
  cases hsh
theorem back_Es (nm:List UInt8→Bool) (dg:Int→List UInt8):(l:List Ex)→okEs nm l=true→∀ e∈l,PB dg e
 | [],_=>by intro e h; cases h
 | e :: r,hok=>by
  rw [okEs,Bool.and_eq_true] at hok
  intro x hx
  rcases List.mem_cons.1 hx with hx | hx
  ·exact hx ▸ back_E nm dg e hok.1
  ·exact back_Es nm dg r hok.2 x hx
end
inductive St where
 | mk (kind op:Int) (name:List UInt8) (exprs:List Ex) (body els:List St)
def wIf:List UInt8:=[105,102]
def wElse:List UInt8:=[101,108,115,101]
def wWhile:List UInt8:=[119,104,105,108,101]
def wLet:List UInt8:=[108,101,116]
def wBreak:List UInt8:=[98,114,101,97,107]
def u5s:List UInt8:=[99,111,110,116,105,110,117,101]
def u6l:List UInt8:=[114,101,116,117,114,110]
def u6x:List UInt8:=[98,97,114,114,105,101,114]
def wAtomic:List UInt8:=[97,116,111,109,105,99]
def u6w:List UInt8:=[99,111,108,108,101,99,116]
def foldOf (t:K):Option Int :=
 if t.1 == 2 then [([97,100,100],(0:Int)),([109,105,110],18),([109,97,120],19),([97,110,100],5),([111,114],6),([120,111,114],7)].lookup t.2.1 else none
def u3s (op:Int):List UInt8 :=
 if op=0 then [97,100,100] else if op=18 then [109,105,110] else if op=19 then [109,97,120] else if op=5 then [97,110,100] else if op=6 then [111,114] else [120,111,114]
def u3t {β:Type} (l:List K) (f:List UInt8→List K→Res β):Res β :=
 match l with
 | t :: r=>if t.1 == 0 then f t.2.1 r else .no l
 | []=>.no []
def needI {β:Type} (l:List K) (f:Int→List K→Res β):Res β :=
 match l with
 | t :: r=>if t.1 == 1 then f t.2.2 r else .no l
 | []=>.no []
def needF {β:Type} (l:List K) (f:Int→List K→Res β):Res β :=
 match l with
 | t :: r=>match foldOf t with
  | some op=>f op r
  | none=>.no l
 | []=>.no []
def u3u {β:Type} (l:List K) (f:Ex→List K→Res β):Res β:=(PE (.ex 1) l).bind f
theorem u7n {β:Type} {x:List UInt8} {n:Int} {r:List K} {f:List UInt8→List K→Res β}:u3t ((0,x,n) :: r) f=f x r:=rfl
theorem needI_hit {β:Type} {x:List UInt8} {n:Int} {r:List K} {f:Int→List K→Res β}:needI ((1,x,n) :: r) f=f n r:=rfl
theorem needF_hit {β:Type} {t:K} {op:Int} (h:foldOf t=some op) {r:List K} {f:Int→List K→Res β}:needF (t :: r) f=f op r:=by
 unfold needF; simp only [h]
theorem needE_hit {β:Type} {l r:List K} {e:Ex} (h:PE (.ex 1) l=.ok e r) {f:Ex→List K→Res β}:u3u l f=f e r:=by
 unfold u3u; rw [h]; rfl
def Short {α:Type} (n:Nat) (x:Res α):Prop:=∀ a r,x=.ok a r→r.length≤n
theorem u2u {α:Type} {n:Nat} {a:α} {r:List K} (h:r.length≤n):Short n (.ok a r):=fun _ _ e=>by cases e; exact h
theorem u4n {α:Type} {n:Nat} {r:List K}:Short n (.no r:Res α):=fun _ _ e=>by cases e
theorem u7m {α β:Type} {n:Nat} {x:Res α} {f:α→List K→Res β} (h:∀ a r,x=.ok a r→Short n (f a r)):Short n (x.bind f):=by
 cases x with
 | ok a r=>exact h a r rfl
 | no r=>exact u4n
theorem u1f {β:Type} {n:Nat} {s:List UInt8} {l:List K} {f:List K→Res β} (h:∀ r,r.length+1=l.length→Short n (f r)):Short n (need s l f):=by
 cases l with
 | nil=>exact u4n
 | cons t r=>unfold need; simp only; split; exact h r rfl; exact u4n
theorem u6m {β:Type} {n:Nat} {l:List K} {f:List UInt8→List K→Res β} (h:∀ x r,r.length+1=l.length→Short n (f x r)):Short n (u3t l f):=by
 cases l with
 | nil=>exact u4n
 | cons t r=>unfold u3t; simp only; split; exact h _ r rfl; exact u4n
theorem short_needI {β:Type} {n:Nat} {l:List K} {f:Int→List K→Res β} (h:∀ x r,r.length+1=l.length→Short n (f x r)):Short n (needI l f):=by
 cases l with
 | nil=>exact u4n
 | cons t r=>unfold needI; simp only; split; exact h _ r rfl; exact u4n
theorem short_needF {β:Type} {n:Nat} {l:List K} {f:Int→List K→Res β} (h:∀ x r,r.length+1=l.length→Short n (f x r)):Short n (needF l f):=by
 cases l with
 | nil=>exact u4n
 | cons t r=>unfold needF; simp only; split; exact h _ r rfl; exact u4n
theorem u2w {β:Type} {n:Nat} {l:List K} {f:Ex→List K→Res β} (h:∀ x r,r.length+1≤l.length→Short n (f x r)):Short n (u3u l f) :=
 u7m fun a r e=>h a r (PE_len _ _ _ _ e)
theorem u7t {β:Type} {s:List UInt8} {l:List K} {f g:List K→Res β} (h:∀ r,r.length+1=l.length→f r=g r):need s l f=need s l g :=
 need_congr fun t r e=>h r (by rw [e]; rfl)
theorem cong_needE {β:Type} {l:List K} {f g:Ex→List K→Res β} (h:∀ x r,r.length+1≤l.length→f x r=g x r):u3u l f=u3u l g :=
 u1l fun a r e=>h a r (PE_len _ _ _ _ e)
abbrev Rst:=List K→Res (List St)
def elseP (p:Rst) (e:Ex) (b:List St) (l:List K):Res St :=
 match l with
 | []=>.ok (.mk 3 0 [] [e] b []) []
 | t :: r=>if isS wElse t then need [123] r fun r1=>(p r1).bind fun c r2=>.ok (.mk 3 0 [] [e] b c) r2 else .ok (.mk 3 0 [] [e] b []) (t :: r)
def retP (l:List K):Res St :=
 match l with
 | []=>.no []
 | t :: r=>if isS [59] t then .ok (.mk 7 0 [] [] [] []) r else u3u (t :: r) fun e r1=>need [59] r1 fun r2=>.ok (.mk 7 0 [] [e] [] []) r2
def namP (x:List UInt8) (l:List K):Res St :=
 match l with
 | []=>.no []
 | t :: r =>
  if isS [91] t then u3u r fun a r1=>need [93] r1 fun r2=>need [61] r2 fun r3=>u3u r3 fun b r4=>need [59] r4 fun r5=>.ok (.mk 2 0 x [a,b] [] []) r5
  else need [61] (t :: r) fun r1=>u3u r1 fun e r2=>need [59] r2 fun r3=>.ok (.mk 1 0 x [e] [] []) r3
def u5k (p:Rst) (t:K) (r:List K):Res St :=
 if isS wIf t then u3u r fun e r1=>need [123] r1 fun r2=>(p r2).bind fun b r3=>elseP p e b r3
 else if isS wWhile t then u3u r fun e r1=>need [123] r1 fun r2=>(p r2).bind fun b r3=>.ok (.mk 4 0 [] [e] b []) r3
 else if isS wLet t then u3t r fun x r1=>need [61] r1 fun r2=>u3u r2 fun e r3=>need [59] r3 fun r4=>.ok (.mk 0 0 x [e] [] []) r4
 else if isS wBreak t then need [59] r fun r1=>.ok (.mk 5 0 [] [] [] []) r1
 else if isS u5s t then need [59] r fun r1=>.ok (.mk 6 0 [] [] [] []) r1
 else if isS u6l t then retP r
 else if isS u6x t then need [59] r fun r1=>.ok (.mk 8 0 [] [] [] []) r1
 else if isS wAtomic t then needF r fun op r1=>u3t r1 fun x r2=>need [91] r2 fun r3=>u3u r3 fun a r4=>need [93] r4 fun r5=>need [44] r5 fun r6 =>
  u3u r6 fun b r7=>need [59] r7 fun r8=>.ok (.mk 9 op x [a,b] [] []) r8
 else if isS u6w t then u3t r fun x r1=>need [61] r1 fun r2=>needF r2 fun op r3=>u3u r3 fun e r4=>need [59] r4 fun r5=>.ok (.mk 10 op x [e] [] []) r5
 else u3t (t :: r) fun x r1=>namP x r1
def restP (p:Rst) (l:List K):Res (List St) :=
 match l with
 | []=>.no []
 | t :: r=>if isS [125] t then .ok [] r else (u5k p t r).bind fun s q=>(p q).bind fun ss q2=>.ok (s :: ss) q2
def goS:Nat→Rst
 | 0=>fun l=>.no l
 | f+1=>restP (goS f)
def LenS (p:Rst):Prop:=∀ l a r,p l=.ok a r→r.length+1≤l.length
theorem elseP_len {p:Rst} (h:LenS p) (e:Ex) (b:List St) (l:List K):Short l.length (elseP p e b l):=by
 unfold elseP
 split
 ·exact u2u (by simp)
 ·split
  ·refine u1f fun r1 h1=>u7m fun a r2 h2=>u2u ?_
   have:=h _ _ _ h2
   simp only [List.length_cons]; omega
  ·exact u2u (by simp)
theorem retP_len (l:List K):Short (l.length - 1) (retP l):=by
 unfold retP
 split
 ·exact u4n
 ·split
  ·exact u2u (by simp)
  ·refine u2w fun e r1 h1=>u1f fun r2 h2=>u2u ?_
   simp only [List.length_cons] at *; omega
theorem namP_len (x:List UInt8) (l:List K):Short (l.length - 1) (namP x l):=by
 unfold namP
 split
 ·exact u4n
 ·split
  ·refine u2w fun a r1 h1=>u1f fun r2 h2=>u1f fun r3 h3=>u2w fun b r4 h4=>u1f fun r5 h5=>u2u ?_
   simp only [List.length_cons] at *; omega
  ·refine u1f fun r1 h1=>u2w fun e r2 h2=>u1f fun r3 h3=>u2u ?_
   simp only [List.length_cons] at *; omega
theorem stmtP_len {p:Rst} (h:LenS p) (t:K) (r:List K):Short r.length (u5k p t r):=by
 unfold u5k
 split
 ·refine u2w fun e r1 h1=>u1f fun r2 h2=>u7m fun b r3 h3 a r4 h4=>?_
  have:=h _ _ _ h3
  have:=elseP_len h _ _ _ _ _ h4
  omega
 split
 ·refine u2w fun e r1 h1=>u1f fun r2 h2=>u7m fun b r3 h3=>u2u ?_
  have:=h _ _ _ h3
  omega
 split
 ·exact u6m fun x r1 h1=>u1f fun r2 h2=>u2w fun e r3 h3=>u1f fun r4 h4=>u2u (by omega)
 split
 ·exact u1f fun r1 h1=>u2u (by omega)
 split
 ·exact u1f fun r1 h1=>u2u (by omega)
 split
 ·intro a q e
  have:=retP_len _ _ _ e
  omega
 split
 ·exact u1f fun r1 h1=>u2u (by omega)
 split
 ·exact short_needF fun op r1 h1=>u6m fun x r2 h2=>u1f fun r3 h3=>u2w fun a r4 h4=>u1f fun r5 h5=>u1f fun r6 h6 =>
   u2w fun b r7 h7=>u1f fun r8 h8=>u2u (by omega)
 split
 ·exact u6m fun x r1 h1=>u1f fun r2 h2=>short_needF fun op r3 h3=>u2w fun e r4 h4=>u1f fun r5 h5=>u2u (by omega)
 ·refine u6m fun x r1 h1 a q e=>?_
  have:=namP_len _ _ _ _ e
  simp only [List.length_cons] at h1
  omega
theorem restP_len {p:Rst} (h:LenS p):LenS (restP p):=by
 intro l a r e
 unfold restP at e
 split at e
 ·cases e
 ·split at e
  ·cases e; simp
  ·obtain ⟨s,q,e1,e⟩:=u0q e
   obtain ⟨ss,q2,e2,e⟩:=u0q e
   have h1:=stmtP_len h _ _ _ _ e1
   have h2:=h _ _ _ e2
   cases e
   simp only [List.length_cons]; omega
theorem goS_len:∀ f,LenS (goS f)
 | 0=>fun _ _ _ h=>by cases h
 | f+1=>restP_len (goS_len f)
theorem stmtP_congr {p q:Rst} (t:K) (r:List K) (hl:LenS q) (h:∀ l,l.length<r.length→p l=q l):u5k p t r=u5k q t r:=by
 unfold u5k
 split
 ·refine cong_needE fun e r1 h1=>u7t fun r2 h2=>?_
  rw [h r2 (by omega)]
  refine u1l fun b r3 h3=>?_
  have:=hl _ _ _ h3
  unfold elseP
  split
  ·rfl
  ·rename_i u v
   split
   ·refine u7t fun r5 h5=>?_
    rw [h r5 (by simp only [List.length_cons] at *; omega)]
   ·rfl
 split
 ·refine cong_needE fun e r1 h1=>u7t fun r2 h2=>?_
  rw [h r2 (by omega)]
 rfl
theorem restP_congr {p q:Rst} (l:List K) (hl:LenS q) (h:∀ l',l'.length<l.length→p l'=q l'):restP p l=restP q l:=by
 unfold restP
 split
 ·rfl
 ·rename_i t r
  split
  ·rfl
  ·rw [stmtP_congr t r hl fun l' h'=>h l' (by simp only [List.length_cons]; omega)]
   refine u1l fun s q2 e=>?_
   have:=stmtP_len hl _ _ _ _ e
   rw [h q2 (by simp only [List.length_cons]; omega)]
theorem goS_stable:∀ f g l,l.length<f→l.length<g→goS f l=goS g l
 | 0,_,_,h,_=>absurd h (Nat.not_lt_zero _)
 | _+1,0,_,_,h=>absurd h (Nat.not_lt_zero _)
 | f+1,g+1,l,hf,hg=>restP_congr l (goS_len g) fun l' h=>goS_stable f g l' (by omega) (by omega)
def PR (l:List K):Res (List St):=goS (l.length+1) l
theorem goS_PR {f:Nat} {l:List K} (h:l.length<f):goS f l=PR l:=goS_stable _ _ l h (Nat.lt_succ_self _)
theorem PR_len:LenS PR:=fun l a r h=>goS_len _ l a r h
theorem PR_eq (l:List K):PR l=restP PR l:=by
 show restP (goS l.length) l=_
 exact restP_congr l PR_len fun l' h=>goS_PR h
def u1j (b:List K):List K:=sg [123] :: (b++[sg [125]])
def stT (kind op:Int) (name:List UInt8) (es:List (List K)) (b c:List K) (ne:Bool):List K :=
 if kind=0 then sg wLet :: (0,name,0) :: sg [61] :: (es.getD 0 []++[sg [59]])
 else if kind=1 then (0,name,0) :: sg [61] :: (es.getD 0 []++[sg [59]])
 else if kind=2 then (0,name,0) :: sg [91] :: (es.getD 0 []++sg [93] :: sg [61] :: (es.getD 1 []++[sg [59]]))
 else if kind=3 then sg wIf :: (es.getD 0 []++(u1j b++if ne then [] else sg wElse :: u1j c))
 else if kind=4 then sg wWhile :: (es.getD 0 []++u1j b)
 else if kind=5 then [sg wBreak,sg [59]]
 else if kind=6 then [sg u5s,sg [59]]
 else if kind=7 then sg u6l :: (es.getD 0 []++[sg [59]])
 else if kind=9 then sg wAtomic :: sg (u3s op) :: (0,name,0) :: sg [91] :: (es.getD 0 []++sg [93] :: sg [44] :: (es.getD 1 []++[sg [59]]))
 else if kind=10 then sg u6w :: (0,name,0) :: sg [61] :: sg (u3s op) :: (es.getD 0 []++[sg [59]])
 else [sg u6x,sg [59]]
mutual
def tS (dg:Int→List UInt8):St→List K
 | .mk kind op name exprs body els=>stT kind op name (exprs.map (tE dg)) (tSs dg body) (tSs dg els) els.isEmpty
def tSs (dg:Int→List UInt8):List St→List K
 | []=>[]
 | s :: r=>tS dg s++tSs dg r
end
def u7r (op:Int):Bool:=op == 0 || op == 18 || op == 19 || op == 5 || op == 6 || op == 7
def u3x (nm:List UInt8→Bool) (kind op:Int) (name:List UInt8) (n:Nat) (nb ne:Bool):Bool :=
 if kind=0∨kind=1 then op == 0&&nm name&&n == 1&&nb&&ne
 else if kind=2 then op == 0&&nm name&&n == 2&&nb&&ne
 else if kind=3 then op == 0&&name.isEmpty&&n == 1
 else if kind=4 then op == 0&&name.isEmpty&&n == 1&&ne
 else if kind=5∨kind=6∨kind=8 then op == 0&&name.isEmpty&&n == 0&&nb&&ne
 else if kind=7 then op == 0&&name.isEmpty&&decide (n≤1)&&nb&&ne
 else if kind=9 then u7r op&&nm name&&n == 2&&nb&&ne
 else if kind=10 then u7r op&&nm name&&n == 1&&nb&&ne
 else false
mutual
def okS (nm:List UInt8→Bool):St→Bool
 | .mk kind op name exprs body els=>u3x nm kind op name exprs.length body.isEmpty els.isEmpty&&exprs.all (okE nm)&&okSs nm body&&okSs nm els
def okSs (nm:List UInt8→Bool):List St→Bool
 | []=>true
 | s :: r=>okS nm s&&okSs nm r
end
theorem u3k {nm:List UInt8→Bool} {dg:Int→List UInt8} {e:Ex} (h:okE nm e=true) {s:List UInt8} (hs:Stop s) {q:List K} {β:Type} {f:Ex→List K→Res β} :
  u3u (tE dg e++sg s :: q) f=f e (sg s :: q):=needE_hit ((back_E nm dg e h).ex1 hs q)
theorem foldOf_text {op:Int} (h:u7r op=true):foldOf (sg (u3s op))=some op:=by
 have:op=0∨op=18∨op=19∨op=5∨op=6∨op=7:=by
  simp only [u7r,Bool.or_eq_true,beq_iff_eq] at h; omega
 rcases this with rfl | rfl | rfl | rfl | rfl | rfl <;> rfl
def NoElse (q:List K):Prop:=∀ t r,q=t :: r→isS wElse t=false
theorem one_ex {l:List Ex} (h:l.length=1):∃ a,l=[a]:=List.length_eq_one_iff.1 h
theorem head_semi (nm:List UInt8→Bool) (dg:Int→List UInt8) (e:Ex) (h:okE nm e=true):∃ u y,tE dg e=u :: y∧isS [59] u=false:=by
 cases e with
 | mk kind op num name kids =>
  rw [okE,Bool.and_eq_true] at h
  obtain ⟨hs,_⟩:=h
  rw [tE]
  unfold u3y at hs
  unfold u2b
  by_cases k0:kind=0
  ·rw [if_pos k0]; exact ⟨_,_,rfl,by simp [isS]⟩
  rw [if_neg k0] at hs ⊢
  by_cases k1:kind=1
  ·subst k1; exact ⟨(0,name,0),[],rfl,rfl⟩
  rw [if_neg k1] at hs
  by_cases k2:kind=2
  ·rw [if_pos k2]
   refine ⟨_,_,rfl,?_⟩
   rw [isS_sg]; unfold spText
   repeat' split
   all_goals rfl
  rw [if_neg k2] at hs ⊢
  by_cases k3:kind=3
  ·rw [if_pos k3]
   refine ⟨_,_,rfl,?_⟩
   rw [isS_sg]; unfold unText
   repeat' split
   all_goals rfl
  rw [if_neg k3] at hs ⊢
  by_cases k4:kind=4
  ·rw [if_pos k4]
   by_cases hm:op=18∨op=19
   ·rw [if_pos hm]
    refine ⟨_,_,rfl,?_⟩
    rcases hm with rfl | rfl <;> rfl
   ·rw [if_neg hm]; exact ⟨_,_,rfl,rfl⟩
  rw [if_neg k4] at hs ⊢
  by_cases k5:kind=5
  ·rw [if_pos k5]; exact ⟨_,_,rfl,rfl⟩
  rw [if_neg k5] at hs ⊢
  by_cases k6:kind=6
  ·rw [if_pos k6]; exact ⟨_,_,rfl,rfl⟩
  rw [if_neg k6]; exact ⟨_,_,rfl,rfl⟩
theorem head_S (dg:Int→List UInt8) (s:St):∃ t r,tS dg s=t :: r∧isS [125] t=false∧isS wElse t=false:=by
 cases s with
 | mk kind op name exprs body els =>
  rw [tS]
  unfold stT
  by_cases k0:kind=0
  ·rw [if_pos k0]; exact ⟨_,_,rfl,rfl,rfl⟩
  rw [if_neg k0]
  by_cases k1:kind=1
  ·rw [if_pos k1]; exact ⟨_,_,rfl,rfl,rfl⟩
  rw [if_neg k1]
  by_cases k2:kind=2
  ·rw [if_pos k2]; exact ⟨_,_,rfl,rfl,rfl⟩
  rw [if_neg k2]
  by_cases k3:kind=3
  ·rw [if_pos k3]; exact ⟨_,_,rfl,rfl,rfl⟩
  rw [if_neg k3]
  by_cases k4:kind=4
  ·rw [if_pos k4]; exact ⟨_,_,rfl,rfl,rfl⟩
  rw [if_neg k4]
  by_cases k5:kind=5
  ·rw [if_pos k5]; exact ⟨_,_,rfl,rfl,rfl⟩
  rw [if_neg k5]
  by_cases k6:kind=6
  ·rw [if_pos k6]; exact ⟨_,_,rfl,rfl,rfl⟩
  rw [if_neg k6]
  by_cases k7:kind=7
  ·rw [if_pos k7]; exact ⟨_,_,rfl,rfl,rfl⟩
  rw [if_neg k7]
  by_cases k9:kind=9
  ·rw [if_pos k9]; exact ⟨_,_,rfl,rfl,rfl⟩
  rw [if_neg k9]
  by_cases k10:kind=10
  ·rw [if_pos k10]; exact ⟨_,_,rfl,rfl,rfl⟩
  rw [if_neg k10]
  exact ⟨_,_,rfl,rfl,rfl⟩
theorem PR_cons {t:K} {r:List K} (h:isS [125] t=false):PR (t :: r)=(u5k PR t r).bind fun s q=>(PR q).bind fun ss q2=>.ok (s :: ss) q2:=by
 rw [PR_eq]
 show (if isS [125] t then _ else _)=_
 rw [h]; rfl
theorem stmtP_if (p:Rst) (r:List K):u5k p (sg wIf) r=u3u r fun e r1=>need [123] r1 fun r2=>(p r2).bind fun b r3=>elseP p e b r3:=rfl
theorem stmtP_while (p:Rst) (r:List K):u5k p (sg wWhile) r=u3u r fun e r1=>need [123] r1 fun r2=>(p r2).bind fun b r3=>.ok (.mk 4 0 [] [e] b []) r3:=rfl
theorem stmtP_let (p:Rst) (r:List K):u5k p (sg wLet) r=u3t r fun x r1=>need [61] r1 fun r2=>u3u r2 fun e r3=>need [59] r3 fun r4=>.ok (.mk 0 0 x [e] [] []) r4:=rfl
theorem stmtP_break (p:Rst) (r:List K):u5k p (sg wBreak) r=need [59] r fun r1=>.ok (.mk 5 0 [] [] [] []) r1:=rfl
theorem stmtP_continue (p:Rst) (r:List K):u5k p (sg u5s) r=need [59] r fun r1=>.ok (.mk 6 0 [] [] [] []) r1:=rfl
theorem stmtP_return (p:Rst) (r:List K):u5k p (sg u6l) r=retP r:=rfl
theorem stmtP_barrier (p:Rst) (r:List K):u5k p (sg u6x) r=need [59] r fun r1=>.ok (.mk 8 0 [] [] [] []) r1:=rfl
theorem stmtP_atomic (p:Rst) (r:List K):u5k p (sg wAtomic) r=needF r fun op r1=>u3t r1 fun x r2=>need [91] r2 fun r3=>u3u r3 fun a r4=>need [93] r4 fun r5=>need [44] r5 fun r6 =>
  u3u r6 fun b r7=>need [59] r7 fun r8=>.ok (.mk 9 op x [a,b] [] []) r8:=rfl
theorem stmtP_collect (p:Rst) (r:List K):u5k p (sg u6w) r=u3t r fun x r1=>need [61] r1 fun r2=>needF r2 fun op r3=>u3u r3 fun e r4=>need [59] r4 fun r5=>.ok (.mk 10 op x [e] [] []) r5:=rfl
theorem stmtP_name (p:Rst) (x:List UInt8) (n:Int) (r:List K):u5k p (0,x,n) r=namP x r:=rfl
theorem namP_put (x:List UInt8) (r:List K):namP x (sg [91] :: r)=u3u r fun a r1=>need [93] r1 fun r2=>need [61] r2 fun r3=>u3u r3 fun b r4=>need [59] r4 fun r5=>.ok (.mk 2 0 x [a,b] [] []) r5:=rfl
theorem namP_set (x:List UInt8) (r:List K):namP x (sg [61] :: r)=u3u r fun e r2=>need [59] r2 fun r3=>.ok (.mk 1 0 x [e] [] []) r3:=rfl
theorem retP_semi (r:List K):retP (sg [59] :: r)=.ok (.mk 7 0 [] [] [] []) r:=rfl
theorem retP_ex {t:K} {r:List K} (h:isS [59] t=false):retP (t :: r)=u3u (t :: r) fun e r1=>need [59] r1 fun r2=>.ok (.mk 7 0 [] [e] [] []) r2:=by
 unfold retP; simp only [h]; rfl
theorem elseP_no (p:Rst) (e:Ex) (b:List St) {q:List K} (h:NoElse q):elseP p e b q=.ok (.mk 3 0 [] [e] b []) q:=by
 unfold elseP
 cases q with
 | nil=>rfl
 | cons t r=>simp only [h t r rfl]; rfl
theorem elseP_yes (p:Rst) (e:Ex) (b:List St) (q:List K):elseP p e b (sg wElse :: q)=need [123] q fun r1=>(p r1).bind fun c r2=>.ok (.mk 3 0 [] [e] b c) r2:=rfl
def PBS (dg:Int→List UInt8) (s:St):Prop:=∀ q,NoElse q→∃ t r,tS dg s++q=t :: r∧isS [125] t=false∧u5k PR t r=.ok s q
def PBR (dg:Int→List UInt8) (l:List St):Prop:=∀ q,PR (tSs dg l++sg [125] :: q)=.ok l q
theorem noElse_rest (dg:Int→List UInt8) (l:List St) (q:List K):NoElse (tSs dg l++sg [125] :: q):=by
 intro t r e
 cases l with
 | nil=>rw [tSs] at e; cases e; rfl
 | cons s l =>
  obtain ⟨u,v,e1,_,h2⟩:=head_S dg s
  rw [tSs,e1] at e
  cases e; exact h2
theorem brace_back {dg:Int→List UInt8} {l:List St} (h:PBR dg l) (q:List K) {β:Type} {f:List St→List K→Res β} :
  (need [123] (u1j (tSs dg l)++q) fun r=>(PR r).bind f)=f l q:=by
 unfold u1j
 rw [List.cons_append,u1i rfl,List.append_assoc]
 show (PR (tSs dg l++sg [125] :: q)).bind f=_
 rw [h]; rfl
theorem back_S1 (nm:List UInt8→Bool) (dg:Int→List UInt8) {kind op:Int} {name:List UInt8} {exprs:List Ex} {body els:List St}
  (hok:okS nm (.mk kind op name exprs body els)=true) (hb:PBR dg body) (hc:PBR dg els):PBS dg (.mk kind op name exprs body els):=by
 rw [okS] at hok
 simp only [Bool.and_eq_true] at hok
 obtain ⟨⟨⟨hsh,hes⟩,-⟩,-⟩:=hok
 intro q hq
 rw [tS]
 unfold u3x at hsh
 by_cases k0:kind=0
 ·subst k0
  simp at hsh
  obtain ⟨⟨⟨⟨rfl,_⟩,h1⟩,rfl⟩,rfl⟩:=hsh
  obtain ⟨a,rfl⟩:=one_ex h1
  have ha:okE nm a=true:=by simpa using hes
  refine ⟨sg wLet,(0,name,0) :: sg [61] :: (tE dg a++sg [59] :: q),by simp [stT],rfl,?_⟩
  rw [stmtP_let,u7n,u1i rfl,u3k ha (by unfold Stop; simp),u1i rfl]
 by_cases k1:kind=1
 ·subst k1
  simp at hsh
  obtain ⟨⟨⟨⟨rfl,_⟩,h1⟩,rfl⟩,rfl⟩:=hsh
  obtain ⟨a,rfl⟩:=one_ex h1
  have ha:okE nm a=true:=by simpa using hes
  refine ⟨(0,name,0),sg [61] :: (tE dg a++sg [59] :: q),by simp [stT],rfl,?_⟩
  rw [stmtP_name,namP_set,u3k ha (by unfold Stop; simp),u1i rfl]
 rw [if_neg (by omega)] at hsh
 by_cases k2:kind=2
 ·subst k2
  simp at hsh
  obtain ⟨⟨⟨⟨rfl,_⟩,h1⟩,rfl⟩,rfl⟩:=hsh
  obtain ⟨a,b,rfl⟩:=two_kids h1
  have hab:okE nm a=true∧okE nm b=true:=by simpa using hes
  refine ⟨(0,name,0),sg [91] :: (tE dg a++sg [93] :: sg [61] :: (tE dg b++sg [59] :: q)),by simp [stT],rfl,?_⟩
  rw [stmtP_name,namP_put,u3k hab.1 (by unfold Stop; simp),u1i rfl,u1i rfl,u3k hab.2 (by unfold Stop; simp),u1i rfl]
 rw [if_neg k2] at hsh
 by_cases k3:kind=3
 ·subst k3
  simp at hsh
  obtain ⟨⟨rfl,rfl⟩,h1⟩:=hsh
  obtain ⟨a,rfl⟩:=one_ex h1
  have ha:okE nm a=true:=by simpa using hes
  refine ⟨sg wIf,tE dg a++(u1j (tSs dg body)++((if els.isEmpty then [] else sg wElse :: u1j (tSs dg els))++q)),by simp [stT],rfl,?_⟩
  have e1:tE dg a++(u1j (tSs dg body)++((if els.isEmpty then [] else sg wElse :: u1j (tSs dg els))++q)) =
   tE dg a++sg [123] :: (tSs dg body++sg [125] :: ((if els.isEmpty then [] else sg wElse :: u1j (tSs dg els))++q)):=by simp [u1j]
  rw [e1,stmtP_if,u3k ha (by unfold Stop; simp),u1i rfl,hb]
  simp only [Res.bind]
  cases els with
  | nil =>
   simp only [List.isEmpty_nil,if_true,List.nil_append]
   rw [elseP_no _ _ _ hq]
  | cons s l =>
   simp only [List.isEmpty_cons,Bool.false_eq_true,if_false,List.cons_append]
   rw [elseP_yes,brace_back hc]
 rw [if_neg k3] at hsh
 by_cases k4:kind=4
 ·subst k4
  simp at hsh
  obtain ⟨⟨⟨rfl,rfl⟩,h1⟩,rfl⟩:=hsh
  obtain ⟨a,rfl⟩:=one_ex h1
  have ha:okE nm a=true:=by simpa using hes
  refine ⟨sg wWhile,tE dg a++sg [123] :: (tSs dg body++sg [125] :: q),by simp [stT,u1j],rfl,?_⟩
  rw [stmtP_while,u3k ha (by unfold Stop; simp),u1i rfl,hb]; simp only [Res.bind]
 rw [if_neg k4] at hsh
 by_cases k5:kind=5∨kind=6∨kind=8
 ·rw [if_pos k5] at hsh
  simp at hsh
  obtain ⟨⟨⟨⟨rfl,rfl⟩,rfl⟩,rfl⟩,rfl⟩:=hsh
  rcases k5 with rfl | rfl | rfl
  ·exact ⟨sg wBreak,sg [59] :: q,rfl,rfl,by rw [stmtP_break,u1i rfl]⟩
  ·exact ⟨sg u5s,sg [59] :: q,rfl,rfl,by rw [stmtP_continue,u1i rfl]⟩
  ·exact ⟨sg u6x,sg [59] :: q,rfl,rfl,by rw [stmtP_barrier,u1i rfl]⟩
 rw [if_neg k5] at hsh
 by_cases k7:kind=7
 ·subst k7
  simp at hsh
  obtain ⟨⟨⟨⟨rfl,rfl⟩,h1⟩,rfl⟩,rfl⟩:=hsh
  cases exprs with
  | nil=>exact ⟨sg u6l,sg [59] :: q,rfl,rfl,by rw [stmtP_return,retP_semi]⟩
  | cons a l =>
   obtain rfl:l=[]:=by
    cases l with
    | nil=>rfl
    | cons b l=>simp only [List.length_cons] at h1; omega
   have ha:okE nm a=true:=by simpa using hes
   refine ⟨sg u6l,tE dg a++sg [59] :: q,by simp [stT],rfl,?_⟩
   rw [stmtP_return]
   obtain ⟨u,y,e1,e2⟩:=head_semi nm dg a ha
   have e3:=u3k (dg:=dg) ha (s:=[59]) (by unfold Stop; simp) (q:=q) (f:=fun e r1=>need [59] r1 fun r2=>Res.ok (St.mk 7 0 [] [e] [] []) r2)
   rw [e1,List.cons_append] at e3 ⊢
   rw [retP_ex e2,e3,u1i rfl]
 rw [if_neg k7] at hsh
 by_cases k9:kind=9
 ·subst k9
  simp at hsh
  obtain ⟨⟨⟨⟨ho,_⟩,h1⟩,rfl⟩,rfl⟩:=hsh
  obtain ⟨a,b,rfl⟩:=two_kids h1
  have hab:okE nm a=true∧okE nm b=true:=by simpa using hes
  refine ⟨sg wAtomic,sg (u3s op) :: (0,name,0) :: sg [91] :: (tE dg a++sg [93] :: sg [44] :: (tE dg b++sg [59] :: q)),by simp [stT],rfl,?_⟩
  rw [stmtP_atomic,needF_hit (foldOf_text ho),u7n,u1i rfl,u3k hab.1 (by unfold Stop; simp),u1i rfl,u1i rfl,u3k hab.2 (by unfold Stop; simp),u1i rfl]
 rw [if_neg k9] at hsh
 by_cases k10:kind=10
 ·subst k10
  simp at hsh
  obtain ⟨⟨⟨⟨ho,_⟩,h1⟩,rfl⟩,rfl⟩:=hsh
  obtain ⟨a,rfl⟩:=one_ex h1
  have ha:okE nm a=true:=by simpa using hes
  refine ⟨sg u6w,(0,name,0) :: sg [61] :: sg (u3s op) :: (tE dg a++sg [59] :: q),by simp [stT],rfl,?_⟩
  rw [stmtP_collect,u7n,u1i rfl,needF_hit (foldOf_text ho),u3k ha (by unfold Stop; simp),u1i rfl]
 rw [if_neg k10] at hsh
 cases hsh
mutual
theorem back_S (nm:List UInt8→Bool) (dg:Int→List UInt8):(s:St)→okS nm s=true→PBS dg s
 | .mk kind op name exprs body els,hok=>by
  have h:=hok
  rw [okS] at h
  simp only [Bool.and_eq_true] at h
  exact back_S1 nm dg hok (back_Ss nm dg body h.1.2) (back_Ss nm dg els h.2)
theorem back_Ss (nm:List UInt8→Bool) (dg:Int→List UInt8):(l:List St)→okSs nm l=true→PBR dg l
 | [],_=>fun q=>by rw [tSs,List.nil_append,PR_eq]; rfl
 | s :: l,hok=>by
  rw [okSs,Bool.and_eq_true] at hok
  intro q
  rw [tSs,List.append_assoc]
  obtain ⟨t,r,e1,e2,e3⟩:=back_S nm dg s hok.1 (tSs dg l++sg [125] :: q) (noElse_rest dg l q)
  rw [e1,PR_cons e2,e3]
  show (PR (tSs dg l++sg [125] :: q)).bind _=_
  rw [back_Ss nm dg l hok.2 q]; rfl
end
inductive It where
 | fn (name:List UInt8) (params:List (List UInt8)) (body:List St)
 | ker (name:List UInt8) (params:List (List UInt8 × Bool)) (shared:List (List UInt8 × Int)) (body:List St)
def wFunc:List UInt8:=[102,117,110,99]
def u7u:List UInt8:=[107,101,114,110,101,108]
def wBuffer:List UInt8:=[98,117,102,102,101,114]
def wInt:List UInt8:=[105,110,116]
def u3o:List UInt8:=[115,104,97,114,101,100]
def moreP {α:Type} (one:List K→Res α):Nat→List K→Res (List α)
 | 0,l=>.no l
 | f+1,l =>
  match l with
  | []=>.no []
  | t :: r=>if isS [44] t then (one r).bind fun a q=>(moreP one f q).bind fun as q2=>.ok (a :: as) q2 else if isS [41] t then .ok [] r else .no (t :: r)
def listP {α:Type} (one:List K→Res α) (l:List K):Res (List α) :=
 need [40] l fun r =>
  match r with
  | []=>.no []
  | t :: q=>if isS [41] t then .ok [] q else (one (t :: q)).bind fun a q1=>(moreP one (q1.length+1) q1).bind fun as q2=>.ok (a :: as) q2
def LenO {α:Type} (one:List K→Res α):Prop:=∀ l a r,one l=.ok a r→r.length+1≤l.length
theorem moreP_len {α:Type} {one:List K→Res α} (h:LenO one):∀ f,LenO (moreP one f)
 | 0=>fun _ _ _ e=>by cases e
 | f+1=>by
  intro l a r e
  unfold moreP at e
  split at e
  ·cases e
  ·split at e
   ·obtain ⟨b,q,e1,e⟩:=u0q e
    obtain ⟨bs,q2,e2,e⟩:=u0q e
    have h1:=h _ _ _ e1
    have h2:=moreP_len h f _ _ _ e2
    cases e
    simp only [List.length_cons]; omega
   ·split at e
    ·cases e; simp
    ·cases e
theorem moreP_stable {α:Type} {one:List K→Res α} (h:LenO one):∀ f g l,l.length<f→l.length<g→moreP one f l=moreP one g l
 | 0,_,_,h,_=>absurd h (Nat.not_lt_zero _)
 | _+1,0,_,_,h=>absurd h (Nat.not_lt_zero _)
 | f+1,g+1,l,hf,hg=>by
  unfold moreP
  split
  ·rfl
  ·rename_i t r
   split
   ·refine u1l fun a q e=>?_
    have:=h _ _ _ e
    simp only [List.length_cons] at hf hg
    rw [moreP_stable h f g q (by omega) (by omega)]
   ·rfl
theorem listP_len {α:Type} {one:List K→Res α} (h:LenO one):LenO (listP one):=by
 intro l a r e
 unfold listP at e
 obtain ⟨t,q,rfl,_,e⟩:=u1b e
 split at e
 ·cases e
 ·split at e
  ·cases e; simp
  ·obtain ⟨b,q1,e1,e⟩:=u0q e
   obtain ⟨bs,q2,e2,e⟩:=u0q e
   have h1:=h _ _ _ e1
   have h2:=moreP_len h _ _ _ _ e2
   cases e
   simp only [List.length_cons] at *; omega
def BackO {α:Type} (one:List K→Res α) (w:α→List K) (a:α):Prop:=∀ q,one (w a++q)=.ok a q
theorem moreP_back {α:Type} {one:List K→Res α} {w:α→List K} (r:List K):∀ (l:List α) (f:Nat),l.length<f→(∀ a∈l,BackO one w a) →
  moreP one f ((l.map w).flatMap (fun u=>sg [44] :: u)++sg [41] :: r)=.ok l r
 | [],f+1,_,_=>rfl
 | a :: l,f+1,hf,h=>by
  simp only [List.map_cons,List.flatMap_cons,List.cons_append,List.append_assoc]
  show ((one (w a++((l.map w).flatMap (fun u=>sg [44] :: u)++sg [41] :: r))).bind fun a q=>(moreP one f q).bind fun as q2=>.ok (a :: as) q2)=_
  rw [h a (by simp)]
  show ((moreP one f ((l.map w).flatMap (fun u=>sg [44] :: u)++sg [41] :: r)).bind fun as q2=>.ok (a :: as) q2)=_
  rw [moreP_back r l f (by simp only [List.length_cons] at hf; omega) fun b hb=>h b (by simp [hb])]
  rfl
theorem flat_len (l:List (List K)):l.length≤(l.flatMap fun u=>sg [44] :: u).length:=by
 induction l with
 | nil=>simp
 | cons a l ih=>simp only [List.flatMap_cons,List.length_append,List.length_cons]; omega
theorem listP_back {α:Type} {one:List K→Res α} {w:α→List K} (l:List α) (r:List K) (h:∀ a∈l,BackO one w a)
  (hh:∀ a∈l,∃ t q,w a=t :: q∧isS [41] t=false):listP one (sg [40] :: (u1h (l.map w)++sg [41] :: r))=.ok l r:=by
 unfold listP
 rw [u1i rfl]
 cases l with
 | nil=>rfl
 | cons a l =>
  obtain ⟨t,q,e1,e2⟩:=hh a (by simp)
  have h1:=h a (by simp) ((l.map w).flatMap (fun u=>sg [44] :: u)++sg [41] :: r)
  simp only [List.map_cons,u1h,List.append_assoc]
  rw [e1,List.cons_append] at h1 ⊢
  show (if isS [41] t=true then _ else _)=_
  rw [e2]
  show (Res.bind (one (t :: _)) _)=_
  rw [h1]
  show ((moreP one _ ((l.map w).flatMap (fun u=>sg [44] :: u)++sg [41] :: r)).bind fun as q2=>.ok (a :: as) q2)=_
  rw [moreP_back r l _ (by have:=flat_len (l.map w); simp only [List.length_map] at this; simp only [List.length_append,List.length_cons]; omega) fun b hb=>h b (by simp [hb])]
  rfl
def nameO (l:List K):Res (List UInt8):=u3t l fun x r=>.ok x r
def u4h (l:List K):Res (List UInt8 × Bool) :=
 match l with
 | []=>.no []
 | t :: r=>if isS wBuffer t then u3t r fun x q=>.ok (x,true) q else need wInt (t :: r) fun r1=>u3t r1 fun x q=>.ok (x,false) q
theorem u6o:LenO nameO:=fun l a r e=>by
 unfold nameO u3t at e
 split at e
 ·split at e
  ·cases e; simp
  ·cases e
 ·cases e
theorem u3f {β:Type} {l:List K} {f:List UInt8→List K→Res β} {b:β} {q:List K} (h:u3t l f=.ok b q):∃ t r,l=t :: r∧t.1=0∧f t.2.1 r=.ok b q:=by
 unfold u3t at h
 split at h
 ·split at h
  ·rename_i ht; exact ⟨_,_,rfl,by simpa using ht,h⟩
  ·cases h
 ·cases h
theorem needI_ok {β:Type} {l:List K} {f:Int→List K→Res β} {b:β} {q:List K} (h:needI l f=.ok b q):∃ t r,l=t :: r∧t.1=1∧f t.2.2 r=.ok b q:=by
 unfold needI at h
 split at h
 ·split at h
  ·rename_i ht; exact ⟨_,_,rfl,by simpa using ht,h⟩
  ·cases h
 ·cases h
theorem u5m:LenO u4h:=fun l a r e=>by
 unfold u4h at e
 split at e
 ·cases e
 ·split at e
  ·obtain ⟨t1,r1,rfl,_,e⟩:=u3f e
   cases e; simp only [List.length_cons]; omega
  ·obtain ⟨t1,r1,e1,_,e⟩:=u1b e
   cases e1
   obtain ⟨t2,r2,rfl,_,e⟩:=u3f e
   cases e; simp only [List.length_cons]; omega
def u3e:Nat→List K→Res (List (List UInt8 × Int))
 | 0,l=>.no l
 | f+1,l =>
  match l with
  | []=>.ok [] []
  | t :: r =>
   if isS u3o t then u3t r fun x r1=>need [91] r1 fun r2=>needI r2 fun n r3=>need [93] r3 fun r4=>need [59] r4 fun r5=>(u3e f r5).bind fun l r6=>.ok ((x,n) :: l) r6
   else .ok [] (t :: r)
theorem sharedP_len:∀ f l,Short l.length (u3e f l)
 | 0,l=>u4n
 | f+1,l=>by
  unfold u3e
  split
  ·exact u2u (by simp)
  ·split
   ·refine u6m fun x r1 h1=>u1f fun r2 h2=>short_needI fun n r3 h3=>u1f fun r4 h4=>u1f fun r5 h5=>u7m fun a r6 h6=>u2u ?_
    have:=sharedP_len f r5 _ _ h6
    simp only [List.length_cons]; omega
   ·exact u2u (by simp)
theorem cong_needN {β:Type} {l:List K} {f g:List UInt8→List K→Res β} (h:∀ x r,r.length+1=l.length→f x r=g x r):u3t l f=u3t l g:=by
 unfold u3t
 split
 ·split
  ·exact h _ _ (by simp)
  ·rfl
 ·rfl
theorem cong_needI {β:Type} {l:List K} {f g:Int→List K→Res β} (h:∀ x r,r.length+1=l.length→f x r=g x r):needI l f=needI l g:=by
 unfold needI
 split
 ·split
  ·exact h _ _ (by simp)
  ·rfl
 ·rfl
theorem sharedP_stable:∀ f g l,l.length<f→l.length<g→u3e f l=u3e g l
 | 0,_,_,h,_=>absurd h (Nat.not_lt_zero _)
 | _+1,0,_,_,h=>absurd h (Nat.not_lt_zero _)
 | f+1,g+1,l,hf,hg=>by
  unfold u3e
  split
  ·rfl
  ·split
   ·refine cong_needN fun x r1 h1=>u7t fun r2 h2=>cong_needI fun n r3 h3=>u7t fun r4 h4=>u7t fun r5 h5=>?_
    simp only [List.length_cons] at hf hg
    rw [sharedP_stable f g r5 (by omega) (by omega)]
   ·rfl
def u8a (l:List K):Res It :=
 match l with
 | []=>.no []
 | t :: r =>
  if isS wFunc t then u3t r fun x r1=>(listP nameO r1).bind fun ps r2=>need [123] r2 fun r3=>(PR r3).bind fun b r4=>.ok (.fn x ps b) r4
  else need u7u (t :: r) fun r1=>u3t r1 fun x r2=>(listP u4h r2).bind fun ps r3=>need [123] r3 fun r4=>(u3e (r4.length+1) r4).bind fun sh r5 =>
   (PR r5).bind fun b r6=>.ok (.ker x ps sh b) r6
theorem itemP_len:LenO u8a:=fun l a r e=>by
 unfold u8a at e
 split at e
 ·cases e
 ·split at e
  ·obtain ⟨t1,r1,rfl,_,e⟩:=u3f e
   obtain ⟨ps,r2,h2,e⟩:=u0q e
   obtain ⟨t3,r3,rfl,_,e⟩:=u1b e
   obtain ⟨b,r4,h4,e⟩:=u0q e
   have h2:=listP_len u6o _ _ _ h2
   have h4:=PR_len _ _ _ h4
   cases e; simp only [List.length_cons] at *; omega
  ·obtain ⟨t1,r1,e1,_,e⟩:=u1b e
   cases e1
   obtain ⟨t2,r2,rfl,_,e⟩:=u3f e
   obtain ⟨ps,r3,h3,e⟩:=u0q e
   obtain ⟨t4,r4,rfl,_,e⟩:=u1b e
   obtain ⟨sh,r5,h5,e⟩:=u0q e
   obtain ⟨b,r6,h6,e⟩:=u0q e
   have h3:=listP_len u5m _ _ _ h3
   have h5:=sharedP_len _ _ _ _ h5
   have h6:=PR_len _ _ _ h6
   cases e; simp only [List.length_cons] at *; omega
def progP:Nat→List K→Res (List It)
 | 0,l=>.no l
 | f+1,l =>
  match l with
  | []=>.ok [] []
  | t :: r=>(u8a (t :: r)).bind fun i q=>(progP f q).bind fun is q2=>.ok (i :: is) q2
theorem progP_stable:∀ f g l,l.length<f→l.length<g→progP f l=progP g l
 | 0,_,_,h,_=>absurd h (Nat.not_lt_zero _)
 | _+1,0,_,_,h=>absurd h (Nat.not_lt_zero _)
 | f+1,g+1,l,hf,hg=>by
  unfold progP
  split
  ·rfl
  ·refine u1l fun i q e=>?_
   have:=itemP_len _ _ _ e
   rw [progP_stable f g q (by omega) (by omega)]
def PP (l:List K):Res (List It):=progP (l.length+1) l
theorem progP_PP {f:Nat} {l:List K} (h:l.length<f):progP f l=PP l:=progP_stable _ _ l h (Nat.lt_succ_self _)
theorem PP_nil:PP []=.ok [] []:=rfl
theorem PP_cons (t:K) (r:List K):PP (t :: r)=(u8a (t :: r)).bind fun i q=>(PP q).bind fun is q2=>.ok (i :: is) q2:=by
 show (u8a (t :: r)).bind (fun i q=>(progP (r.length+1) q).bind fun is q2=>.ok (i :: is) q2)=_
 refine u1l fun i q e=>?_
 have:=itemP_len _ _ _ e
 simp only [List.length_cons] at this
 rw [progP_PP (by omega)]
theorem itemP_fn (r:List K):u8a (sg wFunc :: r)=u3t r fun x r1=>(listP nameO r1).bind fun ps r2=>need [123] r2 fun r3=>(PR r3).bind fun b r4=>.ok (.fn x ps b) r4:=rfl
theorem itemP_ker (r:List K):u8a (sg u7u :: r)=u3t r fun x r2=>(listP u4h r2).bind fun ps r3=>need [123] r3 fun r4=>(u3e (r4.length+1) r4).bind fun sh r5 =>
  (PR r5).bind fun b r6=>.ok (.ker x ps sh b) r6:=rfl
theorem sharedP_hit (f:Nat) (r:List K):u3e (f+1) (sg u3o :: r) =
  u3t r fun x r1=>need [91] r1 fun r2=>needI r2 fun n r3=>need [93] r3 fun r4=>need [59] r4 fun r5=>(u3e f r5).bind fun l r6=>.ok ((x,n) :: l) r6:=rfl
def u4u (a:List UInt8 × Bool):List K:=[sg (if a.2 then wBuffer else wInt),(0,a.1,0)]
def u5l (dg:Int→List UInt8) (a:List UInt8 × Int):List K:=[sg u3o,(0,a.1,0),sg [91],(1,dg a.2,a.2),sg [93],sg [59]]
def tI (dg:Int→List UInt8):It→List K
 | .fn x ps b=>sg wFunc :: (0,x,0) :: sg [40] :: (u1h (ps.map fun y=>[((0:Int),y,(0:Int))])++sg [41] :: u1j (tSs dg b))
 | .ker x ps sh b=>sg u7u :: (0,x,0) :: sg [40] :: (u1h (ps.map u4u)++sg [41] :: u1j (sh.flatMap (u5l dg)++tSs dg b))
def okI (nm:List UInt8→Bool):It→Bool
 | .fn x ps b=>(nm x&&ps.all nm&&decide (ps.length≤6))&&okSs nm b
 | .ker x ps sh b=>(nm x&&ps.all (fun a=>nm a.1)&&decide (ps.length≤6)&&sh.all (fun a=>nm a.1&&decide (1≤a.2∧a.2≤64))&&decide (sh.length≤4))&&okSs nm b
theorem sharedP_back {dg:Int→List UInt8} {r:List K} (hr:∀ t q,r=t :: q→isS u3o t=false):∀ (l:List (List UInt8 × Int)) (f:Nat),l.length<f →
  u3e f (l.flatMap (u5l dg)++r)=.ok l r
 | [],f+1,_=>by
  unfold u3e
  cases r with
  | nil=>rfl
  | cons t q =>
   show (if isS u3o t=true then _ else _)=_
   rw [hr t q rfl]; rfl
 | a :: l,f+1,h=>by
  simp only [List.flatMap_cons,u5l,List.cons_append,List.nil_append]
  rw [sharedP_hit,u7n,u1i rfl,needI_hit,u1i rfl,u1i rfl,sharedP_back hr l f (by simp only [List.length_cons] at h; omega)]
  rfl
theorem shared_len (dg:Int→List UInt8) (l:List (List UInt8 × Int)):l.length≤(l.flatMap (u5l dg)).length:=by
 induction l with
 | nil=>simp
 | cons a l ih=>simp only [List.flatMap_cons,List.length_append,List.length_cons,u5l,List.length_nil]; omega
theorem not_shared (dg:Int→List UInt8) (s:St):∃ t r,tS dg s=t :: r∧isS u3o t=false:=by
 cases s with
 | mk kind op name exprs body els =>
  rw [tS]
  unfold stT
  by_cases k0:kind=0
  ·rw [if_pos k0]; exact ⟨_,_,rfl,rfl⟩
  rw [if_neg k0]
  by_cases k1:kind=1
  ·rw [if_pos k1]; exact ⟨_,_,rfl,rfl⟩
  rw [if_neg k1]
  by_cases k2:kind=2
  ·rw [if_pos k2]; exact ⟨_,_,rfl,rfl⟩
  rw [if_neg k2]
  by_cases k3:kind=3
  ·rw [if_pos k3]; exact ⟨_,_,rfl,rfl⟩
  rw [if_neg k3]
  by_cases k4:kind=4
  ·rw [if_pos k4]; exact ⟨_,_,rfl,rfl⟩
  rw [if_neg k4]
  by_cases k5:kind=5
  ·rw [if_pos k5]; exact ⟨_,_,rfl,rfl⟩
  rw [if_neg k5]
  by_cases k6:kind=6
  ·rw [if_pos k6]; exact ⟨_,_,rfl,rfl⟩
  rw [if_neg k6]
  by_cases k7:kind=7
  ·rw [if_pos k7]; exact ⟨_,_,rfl,rfl⟩
  rw [if_neg k7]
  by_cases k9:kind=9
  ·rw [if_pos k9]; exact ⟨_,_,rfl,rfl⟩
  rw [if_neg k9]
  by_cases k10:kind=10
  ·rw [if_pos k10]; exact ⟨_,_,rfl,rfl⟩
  rw [if_neg k10]
  exact ⟨_,_,rfl,rfl⟩
theorem back_I {nm:List UInt8→Bool} (dg:Int→List UInt8) (i:It) (h:okI nm i=true) (q:List K):u8a (tI dg i++q)=.ok i q:=by
 cases i with
 | fn x ps b =>
  have hb:=back_Ss nm dg b (by rw [okI,Bool.and_eq_true] at h; exact h.2)
  have e:tI dg (.fn x ps b)++q=sg wFunc :: (0,x,0) :: (sg [40] :: (u1h (ps.map fun y=>[((0:Int),y,(0:Int))])++sg [41] :: sg [123] :: (tSs dg b++sg [125] :: q))):=by simp [tI,u1j]
  rw [e]
  rw [itemP_fn,u7n,listP_back ps _ (fun a _ q=>rfl) (fun a _=>⟨_,_,rfl,rfl⟩)]
  simp only [Res.bind]
  rw [u1i rfl,hb]
 | ker x ps sh b =>
  have hb:=back_Ss nm dg b (by rw [okI,Bool.and_eq_true] at h; exact h.2)
  have e:tI dg (.ker x ps sh b)++q=sg u7u :: (0,x,0) :: (sg [40] :: (u1h (ps.map u4u)++sg [41] :: sg [123] :: (sh.flatMap (u5l dg)++(tSs dg b++sg [125] :: q)))):=by simp [tI,u1j]
  rw [e]
  rw [itemP_ker,u7n,listP_back (w:=u4u) ps _ (fun a _ q=>by obtain ⟨a,b⟩:=a; cases b <;> rfl) (fun a _=>⟨_,_,rfl,by obtain ⟨a,b⟩:=a; cases b <;> rfl⟩)]
  simp only [Res.bind]
  rw [u1i rfl,sharedP_back ?hr _ _ ?hl]
  case hl =>
   have:=shared_len dg sh
   simp only [List.length_append,List.length_cons]; omega
  case hr =>
   intro t v ev
   cases b with
   | nil=>rw [tSs] at ev; cases ev; rfl
   | cons s l =>
    obtain ⟨u,w,e1,h2⟩:=not_shared dg s
    rw [tSs,e1] at ev
    cases ev; exact h2
  simp only
  rw [hb]
theorem tI_ne (dg:Int→List UInt8) (i:It) (q:List K):∃ t r,tI dg i++q=t :: r:=by cases i <;> exact ⟨_,_,rfl⟩
theorem back_P {nm:List UInt8→Bool} (dg:Int→List UInt8):∀ l:List It,(∀ i∈l,okI nm i=true)→PP (l.flatMap (tI dg))=.ok l []
 | [],_=>rfl
 | i :: l,h=>by
  rw [List.flatMap_cons]
  have h1:=back_I dg i (h i (by simp)) (l.flatMap (tI dg))
  obtain ⟨t,r,e⟩:=tI_ne dg i (l.flatMap (tI dg))
  rw [e] at h1 ⊢
  rw [PP_cons,h1]
  show ((PP (l.flatMap (tI dg))).bind _)=_
  rw [back_P dg l fun j hj=>h j (by simp [hj])]
  rfl
def Sfx {α:Type} (l:List K) (x:Res α):Prop:=(∀ a r,x=.ok a r→r <:+ l)∧∀ r,x=.no r→r <:+ l
theorem Sfx.mono {α:Type} {l m:List K} {x:Res α} (h:Sfx l x) (hm:l <:+ m):Sfx m x:=⟨fun a r e=>(h.1 a r e).trans hm,fun r e=>(h.2 r e).trans hm⟩
theorem u5u {α:Type} {l r:List K} {a:α} (h:r <:+ l):Sfx l (.ok a r):=⟨fun _ _ e=>(by cases e; exact h),fun _ e=>(by cases e)⟩
theorem u3r {α:Type} {l r:List K} (h:r <:+ l):Sfx l (.no r:Res α):=⟨fun _ _ e=>(by cases e),fun _ e=>(by cases e; exact h)⟩
theorem u1p {α β:Type} {l:List K} {x:Res α} {f:α→List K→Res β} (h:Sfx l x) (hf:∀ a r,Sfx r (f a r)):Sfx l (x.bind f):=by
 cases x with
 | ok a r=>exact (hf a r).mono (h.1 a r rfl)
 | no r=>exact u3r (h.2 r rfl)
theorem u2a (t:K) (r:List K):r <:+ t :: r:=List.suffix_cons t r
theorem u0t {β:Type} {s:List UInt8} {l:List K} {f:List K→Res β} (hf:∀ r,Sfx r (f r)):Sfx l (need s l f):=by
 unfold need
 split
 ·split
  ·exact (hf _).mono (u2a _ _)
  ·exact u3r (List.suffix_refl _)
 ·exact u3r (List.suffix_refl _)
theorem u2z {β:Type} {l:List K} {f:List UInt8→List K→Res β} (hf:∀ x r,Sfx r (f x r)):Sfx l (u3t l f):=by
 unfold u3t
 split
 ·split
  ·exact (hf _ _).mono (u2a _ _)
  ·exact u3r (List.suffix_refl _)
 ·exact u3r (List.suffix_refl _)
theorem sfx_needI {β:Type} {l:List K} {f:Int→List K→Res β} (hf:∀ x r,Sfx r (f x r)):Sfx l (needI l f):=by
 unfold needI
 split
 ·split
  ·exact (hf _ _).mono (u2a _ _)
  ·exact u3r (List.suffix_refl _)
 ·exact u3r (List.suffix_refl _)
theorem sfx_needF {β:Type} {l:List K} {f:Int→List K→Res β} (hf:∀ x r,Sfx r (f x r)):Sfx l (needF l f):=by
 unfold needF
 split
 ·split
  ·exact (hf _ _).mono (u2a _ _)
  ·exact u3r (List.suffix_refl _)
 ·exact u3r (List.suffix_refl _)
theorem step_sfx {p:Rec} (h:∀ c l,Sfx l (p c l)) (c:Cmd) (l:List K):Sfx l (step p c l):=by
 cases c with
 | ex n =>
  simp only [step]
  split
  ·exact h _ _
  ·exact u1p (h _ _) fun a r=>h _ _
 | tail n x =>
  simp only [step]
  split
  ·exact u5u (List.suffix_refl _)
  ·split
   ·exact (u1p (h _ _) fun a r=>h _ _).mono (u2a _ _)
   ·exact u5u (List.suffix_refl _)
 | un =>
  simp only [step]
  split
  ·exact h _ _
  ·split
   ·exact (u1p (h _ _) fun a r=>u5u (List.suffix_refl _)).mono (u2a _ _)
   ·exact h _ _
 | prim =>
  simp only [step]
  split
  ·exact u3r (List.suffix_refl _)
  ·split
   ·exact u5u (u2a _ _)
   ·split
    ·exact (h _ _).mono (u2a _ _)
    ·split
     ·exact (u0t fun r=>u1p (h _ _) fun a r=>u0t fun r=>u1p (h _ _) fun a r=>u0t fun r=>u5u (List.suffix_refl _)).mono (u2a _ _)
     ·split
      ·exact u5u (u2a _ _)
      ·exact u0t fun r=>u1p (h _ _) fun a r=>u0t fun r=>u5u (List.suffix_refl _)
 | named x =>
  simp only [step]
  split
  ·exact u5u (List.suffix_refl _)
  ·split
   ·exact (u1p (h _ _) fun a r=>u0t fun r=>u5u (List.suffix_refl _)).mono (u2a _ _)
   ·split
    ·split
     ·exact (u1p (h _ _) fun a r=>h _ _).mono (u2a _ _)
     ·split
      ·exact u5u ((u2a _ _).trans (u2a _ _))
      ·exact (u1p (h _ _) fun a r=>h _ _).mono (u2a _ _)
    ·exact u5u (List.suffix_refl _)
 | args x kids =>
  simp only [step]
  split
  ·exact u3r (List.suffix_refl _)
  ·split
   ·exact (u1p (h _ _) fun a r=>h _ _).mono (u2a _ _)
   ·split
    ·exact u5u (u2a _ _)
    ·exact u3r (List.suffix_refl _)
theorem go_sfx:∀ f c l,Sfx l (go f c l)
 | 0,_,_=>u3r (List.suffix_refl _)
 | f+1,c,l=>step_sfx (go_sfx f) c l
theorem PE_sfx (c:Cmd) (l:List K):Sfx l (PE c l):=go_sfx _ c l
theorem u2k {β:Type} {l:List K} {f:Ex→List K→Res β} (hf:∀ x r,Sfx r (f x r)):Sfx l (u3u l f):=u1p (PE_sfx _ _) hf
theorem u1k {α:Type} {l:List K} {a:α}:Sfx l (.ok a l):=u5u (List.suffix_refl _)
theorem elseP_sfx {p:Rst} (h:∀ l,Sfx l (p l)) (e:Ex) (b:List St) (l:List K):Sfx l (elseP p e b l):=by
 unfold elseP
 split
 ·exact u1k
 ·split
  ·exact (u0t fun r=>u1p (h _) fun a r=>u1k).mono (u2a _ _)
  ·exact u1k
theorem retP_sfx (l:List K):Sfx l (retP l):=by
 unfold retP
 split
 ·exact u3r (List.suffix_refl _)
 ·split
  ·exact u5u (u2a _ _)
  ·exact u2k fun e r=>u0t fun r=>u1k
theorem namP_sfx (x:List UInt8) (l:List K):Sfx l (namP x l):=by
 unfold namP
 split
 ·exact u3r (List.suffix_refl _)
 ·split
  ·exact (u2k fun e r=>u0t fun r=>u0t fun r=>u2k fun e r=>u0t fun r=>u1k).mono (u2a _ _)
  ·exact u0t fun r=>u2k fun e r=>u0t fun r=>u1k
theorem stmtP_sfx {p:Rst} (h:∀ l,Sfx l (p l)) (t:K) (r:List K):Sfx (t :: r) (u5k p t r):=by
 unfold u5k
 split
 ·exact (u2k fun e r=>u0t fun r=>u1p (h _) fun a r=>elseP_sfx h _ _ _).mono (u2a _ _)
 split
 ·exact (u2k fun e r=>u0t fun r=>u1p (h _) fun a r=>u1k).mono (u2a _ _)
 split
 ·exact (u2z fun x r=>u0t fun r=>u2k fun e r=>u0t fun r=>u1k).mono (u2a _ _)
 split
 ·exact (u0t fun r=>u1k).mono (u2a _ _)
 split
 ·exact (u0t fun r=>u1k).mono (u2a _ _)
 split
 ·exact (retP_sfx _).mono (u2a _ _)
 split
 ·exact (u0t fun r=>u1k).mono (u2a _ _)
 split
 ·exact (sfx_needF fun op r=>u2z fun x r=>u0t fun r=>u2k fun e r=>u0t fun r=>u0t fun r=>u2k fun e r=>u0t fun r=>u1k).mono (u2a _ _)
 split
 ·exact (u2z fun x r=>u0t fun r=>sfx_needF fun op r=>u2k fun e r=>u0t fun r=>u1k).mono (u2a _ _)
 ·exact u2z fun x r=>namP_sfx x r
theorem restP_sfx {p:Rst} (h:∀ l,Sfx l (p l)) (l:List K):Sfx l (restP p l):=by
 unfold restP
 split
 ·exact u3r (List.suffix_refl _)
 ·split
  ·exact u5u (u2a _ _)
  ·exact u1p (stmtP_sfx h _ _) fun s q=>u1p (h q) fun ss q2=>u1k
theorem goS_sfx:∀ f l,Sfx l (goS f l)
 | 0,_=>u3r (List.suffix_refl _)
 | f+1,l=>restP_sfx (goS_sfx f) l
theorem PR_sfx (l:List K):Sfx l (PR l):=goS_sfx _ l
theorem stmtP_head {p:Rst} (h:∀ l,Sfx l (p l)) (t:K) (r:List K):Sfx r (u5k p t r)∨u5k p t r=.no (t :: r):=by
 unfold u5k
 split
 ·exact .inl (u2k fun e r=>u0t fun r=>u1p (h _) fun a r=>elseP_sfx h _ _ _)
 split
 ·exact .inl (u2k fun e r=>u0t fun r=>u1p (h _) fun a r=>u1k)
 split
 ·exact .inl (u2z fun x r=>u0t fun r=>u2k fun e r=>u0t fun r=>u1k)
 split
 ·exact .inl (u0t fun r=>u1k)
 split
 ·exact .inl (u0t fun r=>u1k)
 split
 ·exact .inl (retP_sfx _)
 split
 ·exact .inl (u0t fun r=>u1k)
 split
 ·exact .inl (sfx_needF fun op r=>u2z fun x r=>u0t fun r=>u2k fun e r=>u0t fun r=>u0t fun r=>u2k fun e r=>u0t fun r=>u1k)
 split
 ·exact .inl (u2z fun x r=>u0t fun r=>sfx_needF fun op r=>u2k fun e r=>u0t fun r=>u1k)
 ·unfold u3t
  simp only
  split
  ·exact .inl (namP_sfx _ _)
  ·exact .inr rfl
theorem moreP_sfx {α:Type} {one:List K→Res α} (h:∀ l,Sfx l (one l)):∀ f l,Sfx l (moreP one f l)
 | 0,_=>u3r (List.suffix_refl _)
 | f+1,l=>by
  unfold moreP
  split
  ·exact u3r (List.suffix_refl _)
  ·split
   ·exact (u1p (h _) fun a q=>u1p (moreP_sfx h f q) fun as q2=>u1k).mono (u2a _ _)
   ·split
    ·exact u5u (u2a _ _)
    ·exact u3r (List.suffix_refl _)
theorem listP_sfx {α:Type} {one:List K→Res α} (h:∀ l,Sfx l (one l)) (l:List K):Sfx l (listP one l):=by
 unfold listP
 refine u0t fun r=>?_
 split
 ·exact u3r (List.suffix_refl _)
 ·split
  ·exact u5u (u2a _ _)
  ·exact u1p (h _) fun a q=>u1p (moreP_sfx h _ q) fun as q2=>u1k
theorem nameO_sfx (l:List K):Sfx l (nameO l):=u2z fun _ _=>u1k
theorem paramO_sfx (l:List K):Sfx l (u4h l):=by
 unfold u4h
 split
 ·exact u3r (List.suffix_refl _)
 ·split
  ·exact (u2z fun x r=>u1k).mono (u2a _ _)
  ·exact u0t fun r=>u2z fun x r=>u1k
theorem sharedP_sfx:∀ f l,Sfx l (u3e f l)
 | 0,_=>u3r (List.suffix_refl _)
 | f+1,l=>by
  unfold u3e
  split
  ·exact u1k
  ·split
   ·exact (u2z fun x r=>u0t fun r=>sfx_needI fun n r=>u0t fun r=>u0t fun r=>u1p (sharedP_sfx f r) fun a r=>u1k).mono (u2a _ _)
   ·exact u1k
def fnP (r:List K):Res It:=u3t r fun x r1=>(listP nameO r1).bind fun ps r2=>need [123] r2 fun r3=>(PR r3).bind fun b r4=>.ok (.fn x ps b) r4
def kerP (r:List K):Res It:=u3t r fun x r2=>(listP u4h r2).bind fun ps r3=>need [123] r3 fun r4=>(u3e (r4.length+1) r4).bind fun sh r5 =>
 (PR r5).bind fun b r6=>.ok (.ker x ps sh b) r6
theorem itemP_cons (t:K) (r:List K):u8a (t :: r)=if isS wFunc t then fnP r else need u7u (t :: r) kerP:=rfl
theorem fnP_sfx (l:List K):Sfx l (fnP l):=u2z fun _ r=>u1p (listP_sfx nameO_sfx r) fun _ _=>u0t fun r=>u1p (PR_sfx r) fun _ _=>u1k
theorem kerP_sfx (l:List K):Sfx l (kerP l):=u2z fun _ r=>u1p (listP_sfx paramO_sfx r) fun _ _=>u0t fun r=>u1p (sharedP_sfx _ r) fun _ r=>u1p (PR_sfx r) fun _ _=>u1k
theorem itemP_sfx (l:List K):Sfx l (u8a l):=by
 cases l with
 | nil=>exact u3r (List.suffix_refl _)
 | cons t r =>
  rw [itemP_cons]
  split
  ·exact (fnP_sfx r).mono (u2a _ _)
  ·exact u0t kerP_sfx
theorem tail_stop {n:Nat} {a:Ex} {q:List K} (h:∀ t r,q=t :: r→opOf n t=none):PE (.tail n a) q=.ok a q:=by
 rw [u2j]
 cases q with
 | nil=>rfl
 | cons t r=>simp only [step,h t r rfl]
end Go.Proofs.YtbkhnilbgocpnaaGreatDoor.SynC
namespace Go.Proofs.YtbkhnilbgocpnaaGreatDoor.SynC
open Go.Proofs.YtbkhnilbgocpnaaGreatDoor.LexC
def tokOf (k:K):Tok:=⟨k.1,0,k.2.1,k.2.2⟩
def GoodK (k:K):Prop:=Good (tokOf k)
def u2n (l:List K):Prop:=∀ k∈l,GoodK k
theorem u2g:u2n []:=fun _ h=>by cases h
theorem u0g {k:K} {l:List K} (h:GoodK k) (hl:u2n l):u2n (k :: l):=fun x hx=>by
 rcases List.mem_cons.1 hx with rfl | hx
 ·exact h
 ·exact hl x hx
theorem u0v {l m:List K} (h:u2n l) (hm:u2n m):u2n (l++m):=fun x hx=>by
 rcases List.mem_append.1 hx with hx | hx
 ·exact h x hx
 ·exact hm x hx
theorem goodKs_flat {α:Type} {w:α→List K} {l:List α} (h:∀ a∈l,u2n (w a)):u2n (l.flatMap w):=fun x hx=>by
 obtain ⟨a,ha,hx⟩:=List.mem_flatMap.1 hx
 exact h a ha x hx
def sgB (s:List UInt8):Bool:=u2d s == some (tokOf (sg s))
theorem u7x {s:List UInt8} (h:sgB s=true):GoodK (sg s):=u5t (by simpa [sgB] using h)
theorem words_sgB:wordsL.all sgB=true:=by decide
theorem signs_sgB:u3h.all sgB=true:=by decide
theorem u2q {s:List UInt8} (h:s∈wordsL):GoodK (sg s):=u7x (List.all_eq_true.1 words_sgB s h)
theorem u1g {s:List UInt8} (h:s∈u3h):GoodK (sg s):=u7x (List.all_eq_true.1 signs_sgB s h)
def nmL:List UInt8→Bool
 | []=>false
 | c :: r=>letB c&&(c :: r).all innB&&decide ((c :: r).length≤16)&&!u4x (c :: r)
theorem u3b {x:List UInt8} (h:nmL x=true):GoodK (0,x,0):=by
 cases x with
 | nil=>cases h
 | cons c r =>
  simp only [nmL,Bool.and_eq_true,decide_eq_true_eq,Bool.not_eq_true'] at h
  obtain ⟨⟨⟨h1,h2⟩,h3⟩,h4⟩:=h
  refine u5t (l:=c :: r) ?_
  have ht:(c :: r).takeWhile innB=c :: r:=by
   have:=u2e (p:=innB) (t:=c :: r) (w:=[]) (fun d hd=>List.all_eq_true.1 h2 d hd) (fun d r e=>by cases e)
   rwa [List.append_nil] at this
  rw [u2m,if_pos h1,u3n,ht,if_neg (by rw [h4]; simp),if_neg (by omega)]
  rfl
def digL (n:Nat):List UInt8:=if h:n<10 then [UInt8.ofNat (48+n)] else digL (n / 10)++[UInt8.ofNat (48+n % 10)]
termination_by n
decreasing_by omega
theorem dig_byte {n:Nat} (h:n<10):(UInt8.ofNat (48+n)).toNat=48+n:=by
 rw [UInt8.toNat_ofNat']; omega
theorem digB_byte {n:Nat} (h:n<10):digB (UInt8.ofNat (48+n))=true:=by
 unfold digB digN; rw [dig_byte h]; simp; omega
theorem digL_all (n:Nat):∀ c∈digL n,digB c=true:=by
 induction n using Nat.strongRecOn with
 | ind n ih =>
  rw [digL]
  split
  ·rename_i h
   intro c hc
   rw [List.mem_singleton.1 hc]; exact digB_byte h
  ·intro c hc
   rcases List.mem_append.1 hc with hc | hc
   ·exact ih (n / 10) (by omega) c hc
   ·rw [List.mem_singleton.1 hc]; exact digB_byte (by omega)
theorem digL_ne (n:Nat):digL n≠[]:=by
 rw [digL]; split
 ·simp
 ·simp
theorem valAcc_append (a:Int) (l m:List UInt8):u2y a (l++m)=(u2y a l).bind fun b=>u2y b m:=by
 induction l generalizing a with
 | nil=>rfl
 | cons c l ih =>
  simp only [List.cons_append,u2y]
  split
  ·rfl
  ·exact ih _
theorem val_digL (n:Nat) (h:n≤2147483648):u2y 0 (digL n)=some (n:Int):=by
 induction n using Nat.strongRecOn with
 | ind n ih =>
  rw [digL]
  split
  ·rename_i h
   have e:=dig_byte h
   unfold u2y
   rw [e,if_neg (by omega)]
   unfold u2y
   congr 1; omega
  ·rw [valAcc_append,ih (n / 10) (by omega) (by omega)]
   have e:=dig_byte (n:=n % 10) (by omega)
   show u2y ((n / 10:Nat):Int) [UInt8.ofNat (48+n % 10)]=_
   unfold u2y
   rw [e,if_neg (by omega)]
   unfold u2y
   congr 1; omega
def dgL (i:Int):List UInt8:=digL i.natAbs
theorem good_int {i:Int} (h:0≤i∧i<2147483648∨i = -2147483648):GoodK (1,dgL i,i):=by
 have hn:i.natAbs≤2147483648:=by omega
 have hv:=val_digL i.natAbs hn
 have hw:wrap32 (i.natAbs:Int)=i:=by
  unfold wrap32
  split <;> omega
 refine u5t (l:=digL i.natAbs) ?_
 have hall:=digL_all i.natAbs
 have hne:=digL_ne i.natAbs
 have ht:(digL i.natAbs).takeWhile digB=digL i.natAbs:=by
  have:=u2e (p:=digB) (t:=digL i.natAbs) (w:=[]) (fun d hd=>hall d hd) (fun d r e=>by cases e)
  rwa [List.append_nil] at this
 have key:u2d (digL i.natAbs)=u7c (digL i.natAbs):=by
  cases hd:digL i.natAbs with
  | nil=>exact absurd hd hne
  | cons c r =>
   have hc:=hall c (by rw [hd]; simp)
   have hl:letB c=false:=by
    cases hl:letB c with
    | false=>rfl
    | true=>rw [let_dig hl] at hc; cases hc
   rw [u2m,hl,hc]; rfl
 rw [key,u7c,ht,hv]
 simp only [List.drop_length,u7i,Option.map_some,hw]
 rfl
theorem good_commas {l:List (List K)} (h:∀ t∈l,u2n t):u2n (u1h l):=by
 cases l with
 | nil=>exact u2g
 | cons t r =>
  exact u0v (h t (by simp)) (goodKs_flat fun u hu=>u0g (u1g (by decide)) (h u (by simp [hu])))
theorem opText_mem {op:Int} (h:0≤op∧op<20):sgB (u3i op)=true:=by
 have:op=0∨op=1∨op=2∨op=3∨op=4∨op=5∨op=6∨op=7∨op=8∨op=9∨op=10∨op=11∨op=12∨op=13∨op=14∨op=15∨op=16∨op=17∨op=18∨op=19:=by omega
 rcases this with rfl | rfl | rfl | rfl | rfl | rfl | rfl | rfl | rfl | rfl | rfl | rfl | rfl | rfl | rfl | rfl | rfl | rfl | rfl | rfl <;> decide
theorem spText_mem (op:Int):sgB (spText op)=true:=by
 unfold spText
 repeat' split
 all_goals decide
theorem unText_mem (op:Int):sgB (unText op)=true:=by
 unfold unText
 repeat' split
 all_goals decide
theorem foldText_mem (op:Int):sgB (u3s op)=true:=by
 unfold u3s
 repeat' split
 all_goals decide
theorem u5z {l:List (List K)} (h:∀ t∈l,u2n t) (i:Nat):u2n (l.getD i []):=by
 rw [List.getD_eq_getElem?_getD]
 cases e:l[i]? with
 | none=>exact u2g
 | some t=>exact h t (List.mem_of_getElem? e)
theorem body_good {kind op num:Int} {name:List UInt8} {n:Nat} (hs:u3y nmL kind op num name n=true) {ks:List (List K)} (h:∀ t∈ks,u2n t) :
  u2n (u2b dgL kind op num name ks):=by
 unfold u3y at hs
 unfold u2b
 have h41:u2n [sg [41]]:=u0g (u1g (by decide)) u2g
 have h93:u2n [sg [93]]:=u0g (u1g (by decide)) u2g
 by_cases k0:kind=0
 ·rw [if_pos k0] at hs ⊢
  simp at hs
  refine u0g (good_int ?_) u2g
  rcases hs.1.2 with h | h
  ·exact .inl h
  ·exact .inr h
 rw [if_neg k0] at hs ⊢
 by_cases k1:kind=1
 ·subst k1
  simp at hs
  exact u0g (u3b hs.1.1.2) u2g
 rw [if_neg k1] at hs
 by_cases k2:kind=2
 ·rw [if_pos k2]; exact u0g (u7x (spText_mem op)) u2g
 rw [if_neg k2] at hs ⊢
 by_cases k3:kind=3
 ·rw [if_pos k3]; exact u0g (u7x (unText_mem op)) (u5z h 0)
 rw [if_neg k3] at hs ⊢
 by_cases k4:kind=4
 ·rw [if_pos k4] at hs ⊢
  simp at hs
  have ho:=u7x (opText_mem hs.1.1.1)
  split
  ·exact u0g ho (u0g (u1g (by decide)) (u0v (u5z h 0) (u0g (u1g (by decide)) (u0v (u5z h 1) h41))))
  ·exact u0g (u1g (by decide)) (u0v (u5z h 0) (u0g ho (u0v (u5z h 1) h41)))
 rw [if_neg k4] at hs ⊢
 by_cases k5:kind=5
 ·rw [if_pos k5] at hs ⊢
  simp at hs
  exact u0g (u3b hs.1.1.2) (u0g (u1g (by decide)) (u0v (u5z h 0) h93))
 rw [if_neg k5] at hs ⊢
 by_cases k6:kind=6
 ·rw [if_pos k6] at hs ⊢
  simp at hs
  exact u0g (u3b hs.1.1.2) (u0g (u1g (by decide)) (u0v (good_commas h) h41))
 rw [if_neg k6] at hs
 cases hs
mutual
theorem good_E:(e:Ex)→okE nmL e=true→u2n (tE dgL e)
 | .mk kind op num name kids,h=>by
  rw [okE,Bool.and_eq_true] at h
  rw [tE]
  exact body_good h.1 (good_Es kids h.2)
theorem good_Es:(l:List Ex)→okEs nmL l=true→∀ t∈tEs dgL l,u2n t
 | [],_=>fun t h=>by rw [tEs] at h; cases h
 | e :: r,h=>by
  rw [okEs,Bool.and_eq_true] at h
  intro t ht
  rw [tEs] at ht
  rcases List.mem_cons.1 ht with ht | ht
  ·exact ht ▸ good_E e h.1
  ·exact good_Es r h.2 t ht
end
theorem u7p {b:List K} (h:u2n b):u2n (u1j b) :=
 u0g (u1g (by decide)) (u0v h (u0g (u1g (by decide)) u2g))
theorem st_good {kind op:Int} {name:List UInt8} {n:Nat} {nb ne:Bool} (hs:u3x nmL kind op name n nb ne=true) {es:List (List K)} (h:∀ t∈es,u2n t) {b c:List K}
  (hb:u2n b) (hc:u2n c) (ne':Bool):u2n (stT kind op name es b c ne'):=by
 unfold u3x at hs
 unfold stT
 have h59:u2n [sg [59]]:=u0g (u1g (by decide)) u2g
 have g0:=u5z h 0
 have g1:=u5z h 1
 by_cases k0:kind=0
 ·rw [if_pos (.inl k0)] at hs; rw [if_pos k0]
  simp at hs
  exact u0g (u2q (by decide)) (u0g (u3b hs.1.1.1.2) (u0g (u1g (by decide)) (u0v g0 h59)))
 rw [if_neg k0]
 by_cases k1:kind=1
 ·rw [if_pos (.inr k1)] at hs; rw [if_pos k1]
  simp at hs
  exact u0g (u3b hs.1.1.1.2) (u0g (u1g (by decide)) (u0v g0 h59))
 rw [if_neg (by omega)] at hs; rw [if_neg k1]
 by_cases k2:kind=2
 ·rw [if_pos k2] at hs ⊢
  simp at hs
  exact u0g (u3b hs.1.1.1.2) (u0g (u1g (by decide)) (u0v g0 (u0g (u1g (by decide)) (u0g (u1g (by decide)) (u0v g1 h59)))))
 rw [if_neg k2] at hs ⊢
 by_cases k3:kind=3
 ·rw [if_pos k3]
  refine u0g (u2q (by decide)) (u0v g0 (u0v (u7p hb) ?_))
  split
  ·exact u2g
  ·exact u0g (u2q (by decide)) (u7p hc)
 rw [if_neg k3] at hs ⊢
 by_cases k4:kind=4
 ·rw [if_pos k4]; exact u0g (u2q (by decide)) (u0v g0 (u7p hb))
 rw [if_neg k4] at hs ⊢
 by_cases k5:kind=5
 ·rw [if_pos k5]; exact u0g (u2q (by decide)) h59
 rw [if_neg k5]
 by_cases k6:kind=6
 ·rw [if_pos k6]; exact u0g (u2q (by decide)) h59
 rw [if_neg k6]
 by_cases k7:kind=7
 ·rw [if_pos k7]; exact u0g (u2q (by decide)) (u0v g0 h59)
 rw [if_neg k7] at hs ⊢
 by_cases k9:kind=9
 ·subst k9
  simp at hs
  exact u0g (u2q (by decide)) (u0g (u7x (foldText_mem op)) (u0g (u3b hs.1.1.1.2) (u0g (u1g (by decide)) (u0v g0
   (u0g (u1g (by decide)) (u0g (u1g (by decide)) (u0v g1 h59)))))))
 rw [if_neg k9]
 by_cases k10:kind=10
 ·subst k10
  simp at hs
  exact u0g (u2q (by decide)) (u0g (u3b hs.1.1.1.2) (u0g (u1g (by decide)) (u0g (u7x (foldText_mem op)) (u0v g0 h59))))
 rw [if_neg k10]
 exact u0g (u2q (by decide)) h59
mutual
theorem good_S:(s:St)→okS nmL s=true→u2n (tS dgL s)
 | .mk kind op name exprs body els,h=>by
  rw [okS] at h
  simp only [Bool.and_eq_true] at h
  rw [tS]
  refine st_good h.1.1.1 (fun t ht=>?_) (good_Ss body h.1.2) (good_Ss els h.2) _
  obtain ⟨e,he,rfl⟩:=List.mem_map.1 ht
  exact good_E e (List.all_eq_true.1 h.1.1.2 e he)
theorem good_Ss:(l:List St)→okSs nmL l=true→u2n (tSs dgL l)
 | [],_=>by rw [tSs]; exact u2g
 | s :: r,h=>by
  rw [okSs,Bool.and_eq_true] at h
  rw [tSs]
  exact u0v (good_S s h.1) (good_Ss r h.2)
end
theorem good_I (i:It) (h:okI nmL i=true):u2n (tI dgL i):=by
 cases i with
 | fn x ps b =>
  simp only [okI,Bool.and_eq_true] at h
  refine u0g (u2q (by decide)) (u0g (u3b h.1.1.1) (u0g (u1g (by decide)) (u0v (good_commas fun t ht=>?_)
   (u0g (u1g (by decide)) (u7p (good_Ss b h.2))))))
  obtain ⟨y,hy,rfl⟩:=List.mem_map.1 ht
  exact u0g (u3b (List.all_eq_true.1 h.1.1.2 y hy)) u2g
 | ker x ps sh b =>
  simp only [okI,Bool.and_eq_true] at h
  obtain ⟨⟨⟨⟨⟨h1,h2⟩,-⟩,h3⟩,-⟩,h4⟩:=h
  refine u0g (u2q (by decide)) (u0g (u3b h1) (u0g (u1g (by decide)) (u0v (good_commas fun t ht=>?_)
   (u0g (u1g (by decide)) (u7p (u0v (goodKs_flat fun a ha=>?_) (good_Ss b h4)))))))
  ·obtain ⟨y,hy,rfl⟩:=List.mem_map.1 ht
   refine u0g ?_ (u0g (u3b (List.all_eq_true.1 h2 y hy)) u2g)
   split
   ·exact u2q (by decide)
   ·exact u2q (by decide)
  ·have:=List.all_eq_true.1 h3 a ha
   simp at this
   exact u0g (u2q (by decide)) (u0g (u3b this.1) (u0g (u1g (by decide)) (u0g (good_int (.inl ⟨by omega,by omega⟩))
    (u0g (u1g (by decide)) (u0g (u1g (by decide)) u2g)))))
def txt (l:List K):List UInt8:=u4s (l.map (·.2.1))
end Go.Proofs.YtbkhnilbgocpnaaGreatDoor.SynC
namespace Go.Proofs.YtbkhnilbgocpnaaGreatDoor.SynC
mutual
def u5e:Ex→Int
 | .mk _ _ _ _ kids=>1+u0x kids
def u0x:List Ex→Int
 | []=>0
 | e :: r=>u5e e+u0x r
end
mutual
def depthE:Ex→Int
 | .mk _ _ _ _ kids=>1+u1w kids
def u1w:List Ex→Int
 | []=>0
 | e :: r=>max (depthE e) (u1w r)
end
mutual
theorem partsE_pos:(e:Ex)→1≤u5e e
 | .mk _ _ _ _ kids=>by rw [u5e]; have:=u2p kids; omega
theorem u2p:(l:List Ex)→0≤u0x l
 | []=>by rw [u0x]; omega
 | e :: r=>by rw [u0x]; have:=partsE_pos e; have:=u2p r; omega
end
mutual
theorem depthE_pos:(e:Ex)→1≤depthE e
 | .mk _ _ _ _ kids=>by rw [depthE]; have:=u5o kids; omega
theorem u5o:(l:List Ex)→0≤u1w l
 | []=>by rw [u1w]; omega
 | e :: r=>by rw [u1w]; have:=depthE_pos e; omega
end
theorem okEs_all (nm:List UInt8→Bool):∀ l:List Ex,okEs nm l=l.all (okE nm)
 | []=>by rw [okEs]; rfl
 | e :: r=>by rw [okEs,okEs_all nm r]; rfl
mutual
def u6e:St→Int
 | .mk _ _ _ exprs body els=>1+u0x exprs+u0u body+u0u els
def u0u:List St→Int
 | []=>0
 | s :: r=>u6e s+u0u r
end
mutual
def depthS:St→Int
 | .mk _ _ _ _ body els=>1+max (u1n body) (u1n els)
def u1n:List St→Int
 | []=>0
 | s :: r=>max (depthS s) (u1n r)
end
mutual
def exdS:St→Int
 | .mk _ _ _ exprs body els=>max (u1w exprs) (max (u3v body) (u3v els))
def u3v:List St→Int
 | []=>0
 | s :: r=>max (exdS s) (u3v r)
end
mutual
theorem partsS_pos:(s:St)→1≤u6e s
 | .mk _ _ _ exprs body els=>by rw [u6e]; have:=u2p exprs; have:=u1t body; have:=u1t els; omega
theorem u1t:(l:List St)→0≤u0u l
 | []=>by rw [u0u]; omega
 | s :: r=>by rw [u0u]; have:=partsS_pos s; have:=u1t r; omega
end
mutual
theorem depthS_pos:(s:St)→1≤depthS s
 | .mk _ _ _ _ body els=>by rw [depthS]; have:=u4b body; have:=u4b els; omega
theorem u4b:(l:List St)→0≤u1n l
 | []=>by rw [u1n]; omega
 | s :: r=>by rw [u1n]; have:=depthS_pos s; have:=u4b r; omega
end
mutual
theorem exdS_pos:(s:St)→0≤exdS s
 | .mk _ _ _ exprs body els=>by rw [exdS]; have:=u5o exprs; have:=u7s body; have:=u7s els; omega
theorem u7s:(l:List St)→0≤u3v l
 | []=>by rw [u3v]; omega
 | s :: r=>by rw [u3v]; have:=exdS_pos s; have:=u7s r; omega
end
end Go.Proofs.YtbkhnilbgocpnaaGreatDoor.SynC
namespace Go.Proofs.YtbkhnilbgocpnaaGreatDoor.SynC
open Go.Proofs.YtbkhnilbgocpnaaGreatDoor.LexC
def pre (l:List K):List UInt8:=l.flatMap fun k=>32 :: k.2.1
theorem pre_nil:pre []=[]:=rfl
theorem pre_cons (k:K) (l:List K):pre (k :: l)=32 :: (k.2.1++pre l):=rfl
theorem pre_txt:∀ (k:K) (l:List K),pre (k :: l)=32 :: txt (k :: l)
 | k,[]=>by simp [pre,txt,u4s]
 | k,m :: l=>by
  rw [pre_cons,pre_txt m l]
  show 32 :: (k.2.1++32 :: u4s ((m :: l).map (·.2.1)))=32 :: u4s (k.2.1 :: (m :: l).map (·.2.1))
  rw [joinL_cons k.2.1 ((m :: l).map (·.2.1)) (by simp)]
theorem txt_drop (l:List K):txt l=(pre l).drop 1:=by
 cases l with
 | nil=>rfl
 | cons k l=>rw [pre_txt]; rfl
end Go.Proofs.YtbkhnilbgocpnaaGreatDoor.SynC
namespace Go.Proofs.YtbkhnilbgocpnaaGreatDoor.SynC
structure Fn where
 name:List UInt8
 params:List (List UInt8)
 body:List St
structure Kr where
 name:List UInt8
 params:List (List UInt8 × Bool)
 shared:List (List UInt8 × Int)
 body:List St
structure Pg where
 fns:List Fn
 krs:List Kr
def Fn.it (f:Fn):It:=.fn f.name f.params f.body
def Kr.it (k:Kr):It:=.ker k.name k.params k.shared k.body
def Pg.its (p:Pg):List It:=p.fns.map Fn.it++p.krs.map Kr.it
def It.fn?:It→Option Fn
 | .fn x ps b=>some ⟨x,ps,b⟩
 | _=>none
def It.kr?:It→Option Kr
 | .ker x ps sh b=>some ⟨x,ps,sh,b⟩
 | _=>none
def pg (l:List It):Pg:=⟨l.filterMap It.fn?,l.filterMap It.kr?⟩
theorem fns_of_fns (l:List Fn):(l.map Fn.it).filterMap It.fn? = l:=by
 induction l with
 | nil=>rfl
 | cons a l ih=>rw [List.map_cons,List.filterMap_cons]; simp only [Fn.it,It.fn?]; rw [show (l.map Fn.it)=l.map Fn.it from rfl,ih]
theorem fns_of_krs (l:List Kr):(l.map Kr.it).filterMap It.fn? = []:=by
 induction l with
 | nil=>rfl
 | cons a l ih=>rw [List.map_cons,List.filterMap_cons]; simp only [Kr.it,It.fn?]; exact ih
theorem krs_of_krs (l:List Kr):(l.map Kr.it).filterMap It.kr? = l:=by
 induction l with
 | nil=>rfl
 | cons a l ih=>rw [List.map_cons,List.filterMap_cons]; simp only [Kr.it,It.kr?]; rw [ih]
theorem krs_of_fns (l:List Fn):(l.map Fn.it).filterMap It.kr? = []:=by
 induction l with
 | nil=>rfl
 | cons a l ih=>rw [List.map_cons,List.filterMap_cons]; simp only [Fn.it,It.kr?]; exact ih
theorem pg_its (p:Pg):pg p.its=p:=by
 unfold pg Pg.its
 rw [List.filterMap_append,List.filterMap_append,fns_of_fns,fns_of_krs,krs_of_fns,krs_of_krs,List.append_nil,List.nil_append]
theorem pg_mixed (p q:Pg):pg (p.its++q.its)=⟨p.fns++q.fns,p.krs++q.krs⟩:=by
 have hp:=pg_its p
 have hq:=pg_its q
 unfold pg at *
 rw [List.filterMap_append,List.filterMap_append]
 have h1:=congrArg Pg.fns hp
 have h2:=congrArg Pg.krs hp
 have h3:=congrArg Pg.fns hq
 have h4:=congrArg Pg.krs hq
 simp only at h1 h2 h3 h4
 rw [h1,h2,h3,h4]
def OkP (nm:List UInt8→Bool) (p:Pg):Prop:=∀ i∈p.its,okI nm i=true
theorem back_mixed {nm:List UInt8→Bool} (dg:Int→List UInt8) (p q:Pg) (hp:OkP nm p) (hq:OkP nm q):PP (p.its.flatMap (tI dg)++q.its.flatMap (tI dg))=.ok (p.its++q.its) []:=by
 rw [← List.flatMap_append]
 exact back_P dg _ fun i hi=>(List.mem_append.1 hi).elim (hp i) (hq i)
theorem u1s {α β γ:Type} (x:Res α) (f:α→List K→Res β) (g:β→List K→Res γ):(x.bind f).bind g=x.bind fun a r=>(f a r).bind g:=by
 cases x <;> rfl
theorem bind_id {α:Type} (x:Res α):(x.bind fun a r=>.ok a r)=x:=by cases x <;> rfl
def TL:Nat→Nat→Ex→List K→Res Ex
 | _,0,a,l=>.ok a l
 | n,d+1,a,l=>(TL (n+1) d a l).bind fun b r=>PE (.tail n b) r
theorem ex_TL:∀ d n,n+d=11→∀ l,PE (.ex n) l=(PE .un l).bind (TL n d)
 | 0,n,h,l=>by
  have:n=11:=by omega
  subst this
  rw [ex11]
  exact (bind_id _).symm
 | d+1,n,h,l=>by
  rw [u2j,step,if_neg (by omega),ex_TL d (n+1) (by omega) l,u1s]
  rfl
theorem TL_stop {a:Ex} {l:List K}:∀ d n,NoOp n (n+d) l→TL n d a l=.ok a l
 | 0,_,_=>rfl
 | d+1,n,h=>by
  rw [TL,TL_stop d (n+1) (fun k h1 h2=>h k (by omega) (by omega))]
  exact tail_stop fun t r e=>h n (Nat.le_refl _) (by omega) t r e
theorem tail_end:∀ (m:Nat) (n:Nat) (a b:Ex) (l r:List K),l.length≤m→n≤10→NoOp (n+1) 11 l→PE (.tail n a) l=.ok b r→NoOp n 11 r∧True
 | m,n,a,b,l,r,hm,hn,ho,h=>by
  
  have ends:∀ d k,k+d=11→∀ l' b' r',l'.length<l.length→PE (.ex k) l'=.ok b' r'→NoOp k 11 r':=by
   intro d
   induction d with
   | zero=>intro k hk l' b' r' _ _ j h1 h2; omega
   | succ d ih =>
    intro k hk l' b' r' hl h'
    rw [u2j,step,if_neg (by omega)] at h'
    obtain ⟨c,q,e1,e2⟩:=u0q h'
    have hq:=PE_len _ _ _ _ e1
    simp only [dl] at hq
    cases m with
    | zero=>omega
    | succ m=>exact (tail_end m k c b' q r' (by omega) (by omega) (ih (k+1) (by omega) l' c q hl e1) e2).1
  refine ⟨?_,trivial⟩
  cases l with
  | nil =>
   rw [u2j] at h
   simp only [step] at h
   cases h
   intro _ _ _ _ _ e; cases e
  | cons t q =>
   rw [u2j] at h
   simp only [step] at h
   split at h
   ·obtain ⟨c,u,e1,e2⟩:=u0q h
    have hu:=PE_len _ _ _ _ e1
    simp only [dl] at hu
    have hc:=ends (10 - n) (n+1) (by omega) q c u (by simp) e1
    cases m with
    | zero=>simp at hm
    | succ m=>exact (tail_end m n _ b u r (by simp only [List.length_cons] at hm; omega) hn hc e2).1
   ·rename_i hno
    cases h
    intro k h1 h2 t' q' e
    by_cases hk:k=n
    ·cases e; rw [hk]; exact hno
    ·exact ho k (by omega) h2 t' q' e
 termination_by m=>m
theorem ex_end:∀ d n,n+d=11→∀ {l r b},PE (.ex n) l=.ok b r→NoOp n 11 r
 | 0,n,h,_,_,_,_=>fun k h1 h2=>by omega
 | d+1,n,h,l,r,b,e=>by
  rw [u2j,step,if_neg (by omega)] at e
  obtain ⟨c,q,e1,e2⟩:=u0q e
  exact (tail_end q.length n c b q r (Nat.le_refl _) (by omega) (ex_end d (n+1) (by omega) e1) e2).1
theorem opOf_one {t:K} {m k:Nat} {o o':Int} (h1:1≤m) (h2:m≤10) (h3:1≤k) (h4:k≤10) (h:opOf m t=some o) (h':opOf k t=some o'):k=m:=by
 unfold opOf at h h'
 split at h
 ·rename_i ht
  rw [if_pos ht] at h'
  have key:∀ s:List UInt8,∀ m∈List.range' 1 10,∀ x∈lev m,x.1=s→∀ k∈List.range' 1 10,∀ y∈lev k,y.1=s→k=m:=by
   have:∀ m∈List.range' 1 10,∀ x∈lev m,∀ k∈List.range' 1 10,∀ y∈lev k,y.1=x.1→k=m:=by decide
   intro s m hm x hx e k hk y hy e'
   exact this m hm x hx k hk y hy (e'.trans e.symm)
  have mem:∀ (L:List (List UInt8 × Int)) o,L.lookup t.2.1=some o→∃ x∈L,x.1=t.2.1:=by
   intro L
   induction L with
   | nil=>intro o h; cases h
   | cons x L ih =>
    intro o h
    by_cases hx:t.2.1=x.1
    ·exact ⟨x,by simp,hx.symm⟩
    ·rw [List.lookup_cons,beq_false_of_ne hx] at h
     obtain ⟨y,hy,e⟩:=ih o h
     exact ⟨y,by simp [hy],e⟩
  obtain ⟨x,hx,ex⟩:=mem _ _ h
  obtain ⟨y,hy,ey⟩:=mem _ _ h'
  exact key _ m (by simp only [List.mem_range'_1]; omega) x hx ex k (by simp only [List.mem_range'_1]; omega) y hy ey
 ·cases h
theorem TL_op {m:Nat} {t:K} {op:Int} (h1:1≤m) (hm:m≤10) (ho:opOf m t=some op) (a:Ex) (r:List K):∀ d n,n+d=11→1≤n→n≤m →
  TL n d a (t :: r)=(PE (.ex (m+1)) r).bind fun b q=>TL n d (bin op t.2.1 a b) q
 | 0,n,h,hn,hle=>by omega
 | d+1,n,h,hn,hle=>by
  by_cases e:n=m
  ·subst e
   have hs:NoOp (n+1) (n+1+d) (t :: r):=by
    intro k k1 k2 t' q' e
    cases e
    cases hk:opOf k t with
    | none=>rfl
    | some o'=>have:=opOf_one h1 hm (by omega) (by omega) ho hk; omega
   rw [TL,TL_stop d (n+1) hs]
   show PE (.tail n a) (t :: r)=_
   rw [u2j]
   simp only [step,ho]
   refine u1l fun b q e=>?_
   rw [TL,TL_stop d (n+1) (fun k k1 k2=>ex_end d (n+1) (by omega) e k k1 (by omega))]
   rfl
  ·rw [TL,TL_op h1 hm ho a r d (n+1) (by omega) (by omega) (by omega),u1s]
   rfl
end Go.Proofs.YtbkhnilbgocpnaaGreatDoor.SynC
namespace Go.Proofs.YtbkhnilbgocpnaaGreatDoor.SynC
open Go.Proofs.YtbkhnilbgocpnaaGreatDoor.LexC
def SmK (k:K):Prop:=k.2.1.length≤16
def SmKs (l:List K):Prop:=∀ k∈l,SmK k
theorem u3q:SmKs []:=fun _ h=>by cases h
theorem u0k {k:K} {l:List K} (h:SmK k) (hl:SmKs l):SmKs (k :: l):=fun x hx=>by
 rcases List.mem_cons.1 hx with rfl | hx
 ·exact h
 ·exact hl x hx
theorem u1c {l m:List K} (h:SmKs l) (hm:SmKs m):SmKs (l++m):=fun x hx=>by
 rcases List.mem_append.1 hx with hx | hx
 ·exact h x hx
 ·exact hm x hx
theorem smKs_flat {α:Type} {w:α→List K} {l:List α} (h:∀ a∈l,SmKs (w a)):SmKs (l.flatMap w):=fun x hx=>by
 obtain ⟨a,ha,hx⟩:=List.mem_flatMap.1 hx
 exact h a ha x hx
theorem u2r {s:List UInt8} (h:s.length≤16):SmK (sg s):=h
theorem u4v {x:List UInt8} (h:nmL x=true):SmK (0,x,0):=by
 cases x with
 | nil=>cases h
 | cons c r =>
  simp only [nmL,Bool.and_eq_true,decide_eq_true_eq,Bool.not_eq_true'] at h
  exact h.1.2
theorem digL_len:∀ (k n:Nat),n<10 ^ (k+1)→(digL n).length≤k+1
 | 0,n,h=>by rw [digL,dif_pos (by omega)]; simp
 | k+1,n,h=>by
  rw [digL]
  split
  ·simp
  ·have:=digL_len k (n / 10) (by rw [Nat.pow_succ] at h; omega)
   simp; omega
theorem sm_int {i:Int} (h:0≤i∧i<2147483648∨i = -2147483648):SmK (1,dgL i,i):=by
 have:=digL_len 9 i.natAbs (by omega)
 show (digL i.natAbs).length≤16
 omega
theorem ite_len {c:Prop} [Decidable c] {a b:List UInt8} (ha:a.length≤16) (hb:b.length≤16):(if c then a else b).length≤16:=by
 split
 ·exact ha
 ·exact hb
theorem sm_op (op:Int):SmK (sg (u3i op)):=by
 refine u2r ?_
 unfold u3i
 repeat' (refine ite_len ?_ ?_)
 all_goals decide
theorem sm_sp (op:Int):SmK (sg (spText op)):=by
 refine u2r ?_
 unfold spText
 repeat' split
 all_goals decide
theorem sm_un (op:Int):SmK (sg (unText op)):=by
 refine u2r ?_
 unfold unText
 repeat' split
 all_goals decide
theorem sm_fold (op:Int):SmK (sg (u3s op)):=by
 refine u2r ?_
 unfold u3s
 repeat' split
 all_goals decide
theorem sm_commas {l:List (List K)} (h:∀ t∈l,SmKs t):SmKs (u1h l):=by
 cases l with
 | nil=>exact u3q
 | cons t r =>
  exact u1c (h t (by simp)) (smKs_flat fun u hu=>u0k (u2r (by decide)) (h u (by simp [hu])))
theorem getD_sm {l:List (List K)} (h:∀ t∈l,SmKs t) (i:Nat):SmKs (l.getD i []):=by
 rw [List.getD_eq_getElem?_getD]
 cases e:l[i]? with
 | none=>exact u3q
 | some t=>exact h t (List.mem_of_getElem? e)
theorem body_sm {kind op num:Int} {name:List UInt8} {n:Nat} (hs:u3y nmL kind op num name n=true) {ks:List (List K)} (h:∀ t∈ks,SmKs t) :
  SmKs (u2b dgL kind op num name ks):=by
 unfold u3y at hs
 unfold u2b
 have h41:SmKs [sg [41]]:=u0k (u2r (by decide)) u3q
 have h93:SmKs [sg [93]]:=u0k (u2r (by decide)) u3q
 by_cases k0:kind=0
 ·rw [if_pos k0] at hs ⊢
  simp at hs
  refine u0k (sm_int ?_) u3q
  rcases hs.1.2 with h | h
  ·exact .inl h
  ·exact .inr h
 rw [if_neg k0] at hs ⊢
 by_cases k1:kind=1
 ·subst k1
  simp at hs
  exact u0k (u4v hs.1.1.2) u3q
 rw [if_neg k1] at hs
 by_cases k2:kind=2
 ·rw [if_pos k2]; exact u0k (sm_sp op) u3q
 rw [if_neg k2] at hs ⊢
 by_cases k3:kind=3
 ·rw [if_pos k3]; exact u0k (sm_un op) (getD_sm h 0)
 rw [if_neg k3] at hs ⊢
 by_cases k4:kind=4
 ·rw [if_pos k4] at hs ⊢
  simp at hs
  have ho:=sm_op op
  split
  ·exact u0k ho (u0k (u2r (by decide)) (u1c (getD_sm h 0) (u0k (u2r (by decide)) (u1c (getD_sm h 1) h41))))
  ·exact u0k (u2r (by decide)) (u1c (getD_sm h 0) (u0k ho (u1c (getD_sm h 1) h41)))
 rw [if_neg k4] at hs ⊢
 by_cases k5:kind=5
 ·rw [if_pos k5] at hs ⊢
  simp at hs
  exact u0k (u4v hs.1.1.2) (u0k (u2r (by decide)) (u1c (getD_sm h 0) h93))
 rw [if_neg k5] at hs ⊢
 by_cases k6:kind=6
 ·rw [if_pos k6] at hs ⊢
  simp at hs
  exact u0k (u4v hs.1.1.2) (u0k (u2r (by decide)) (u1c (sm_commas h) h41))
 rw [if_neg k6] at hs
 cases hs
mutual
theorem sm_E:(e:Ex)→okE nmL e=true→SmKs (tE dgL e)
 | .mk kind op num name kids,h=>by
  rw [okE,Bool.and_eq_true] at h
  rw [tE]
  exact body_sm h.1 (sm_Es kids h.2)
theorem sm_Es:(l:List Ex)→okEs nmL l=true→∀ t∈tEs dgL l,SmKs t
 | [],_=>fun t h=>by rw [tEs] at h; cases h
 | e :: r,h=>by
  rw [okEs,Bool.and_eq_true] at h
  intro t ht
  rw [tEs] at ht
  rcases List.mem_cons.1 ht with ht | ht
  ·exact ht ▸ sm_E e h.1
  ·exact sm_Es r h.2 t ht
end
theorem sm_brace {b:List K} (h:SmKs b):SmKs (u1j b) :=
 u0k (u2r (by decide)) (u1c h (u0k (u2r (by decide)) u3q))
theorem st_sm {kind op:Int} {name:List UInt8} {n:Nat} {nb ne:Bool} (hs:u3x nmL kind op name n nb ne=true) {es:List (List K)} (h:∀ t∈es,SmKs t) {b c:List K}
  (hb:SmKs b) (hc:SmKs c) (ne':Bool):SmKs (stT kind op name es b c ne'):=by
 unfold u3x at hs
 unfold stT
 have h59:SmKs [sg [59]]:=u0k (u2r (by decide)) u3q
 have g0:=getD_sm h 0
 have g1:=getD_sm h 1
 by_cases k0:kind=0
 ·rw [if_pos (.inl k0)] at hs; rw [if_pos k0]
  simp at hs
  exact u0k (u2r (by decide)) (u0k (u4v hs.1.1.1.2) (u0k (u2r (by decide)) (u1c g0 h59)))
 rw [if_neg k0]
 by_cases k1:kind=1
 ·rw [if_pos (.inr k1)] at hs; rw [if_pos k1]
  simp at hs
  exact u0k (u4v hs.1.1.1.2) (u0k (u2r (by decide)) (u1c g0 h59))
 rw [if_neg (by omega)] at hs; rw [if_neg k1]
 by_cases k2:kind=2
 ·rw [if_pos k2] at hs ⊢
  simp at hs
  exact u0k (u4v hs.1.1.1.2) (u0k (u2r (by decide)) (u1c g0 (u0k (u2r (by decide)) (u0k (u2r (by decide)) (u1c g1 h59)))))
 rw [if_neg k2] at hs ⊢
 by_cases k3:kind=3
 ·rw [if_pos k3]
  refine u0k (u2r (by decide)) (u1c g0 (u1c (sm_brace hb) ?_))
  split
  ·exact u3q
  ·exact u0k (u2r (by decide)) (sm_brace hc)
 rw [if_neg k3] at hs ⊢
 by_cases k4:kind=4
 ·rw [if_pos k4]; exact u0k (u2r (by decide)) (u1c g0 (sm_brace hb))
 rw [if_neg k4] at hs ⊢
 by_cases k5:kind=5
 ·rw [if_pos k5]; exact u0k (u2r (by decide)) h59
 rw [if_neg k5]
 by_cases k6:kind=6
 ·rw [if_pos k6]; exact u0k (u2r (by decide)) h59
 rw [if_neg k6]
 by_cases k7:kind=7
 ·rw [if_pos k7]; exact u0k (u2r (by decide)) (u1c g0 h59)
 rw [if_neg k7] at hs ⊢
 by_cases k9:kind=9
 ·subst k9
  simp at hs
  exact u0k (u2r (by decide)) (u0k (sm_fold op) (u0k (u4v hs.1.1.1.2) (u0k (u2r (by decide)) (u1c g0
   (u0k (u2r (by decide)) (u0k (u2r (by decide)) (u1c g1 h59)))))))
 rw [if_neg k9]
 by_cases k10:kind=10
 ·subst k10
  simp at hs
  exact u0k (u2r (by decide)) (u0k (u4v hs.1.1.1.2) (u0k (u2r (by decide)) (u0k (sm_fold op) (u1c g0 h59))))
 rw [if_neg k10]
 exact u0k (u2r (by decide)) h59
mutual
theorem sm_S:(s:St)→okS nmL s=true→SmKs (tS dgL s)
 | .mk kind op name exprs body els,h=>by
  rw [okS] at h
  simp only [Bool.and_eq_true] at h
  rw [tS]
  refine st_sm h.1.1.1 (fun t ht=>?_) (sm_Ss body h.1.2) (sm_Ss els h.2) _
  obtain ⟨e,he,rfl⟩:=List.mem_map.1 ht
  exact sm_E e (List.all_eq_true.1 h.1.1.2 e he)
theorem sm_Ss:(l:List St)→okSs nmL l=true→SmKs (tSs dgL l)
 | [],_=>by rw [tSs]; exact u3q
 | s :: r,h=>by
  rw [okSs,Bool.and_eq_true] at h
  rw [tSs]
  exact u1c (sm_S s h.1) (sm_Ss r h.2)
end
theorem sm_I (i:It) (h:okI nmL i=true):SmKs (tI dgL i):=by
 cases i with
 | fn x ps b =>
  simp only [okI,Bool.and_eq_true] at h
  refine u0k (u2r (by decide)) (u0k (u4v h.1.1.1) (u0k (u2r (by decide)) (u1c (sm_commas fun t ht=>?_)
   (u0k (u2r (by decide)) (sm_brace (sm_Ss b h.2))))))
  obtain ⟨y,hy,rfl⟩:=List.mem_map.1 ht
  exact u0k (u4v (List.all_eq_true.1 h.1.1.2 y hy)) u3q
 | ker x ps sh b =>
  simp only [okI,Bool.and_eq_true] at h
  obtain ⟨⟨⟨⟨⟨h1,h2⟩,-⟩,h3⟩,-⟩,h4⟩:=h
  refine u0k (u2r (by decide)) (u0k (u4v h1) (u0k (u2r (by decide)) (u1c (sm_commas fun t ht=>?_)
   (u0k (u2r (by decide)) (sm_brace (u1c (smKs_flat fun a ha=>?_) (sm_Ss b h4)))))))
  ·obtain ⟨y,hy,rfl⟩:=List.mem_map.1 ht
   refine u0k ?_ (u0k (u4v (List.all_eq_true.1 h2 y hy)) u3q)
   split
   ·exact u2r (by decide)
   ·exact u2r (by decide)
  ·have:=List.all_eq_true.1 h3 a ha
   simp at this
   exact u0k (u2r (by decide)) (u0k (u4v this.1) (u0k (u2r (by decide)) (u0k (sm_int (.inl ⟨by omega,by omega⟩))
    (u0k (u2r (by decide)) (u0k (u2r (by decide)) u3q)))))
theorem pre_len:∀ l:List K,SmKs l→(pre l).length≤17 * l.length
 | [],_=>by simp [pre_nil]
 | k :: l,h=>by
  have h1:k.2.1.length≤16:=h k (by simp)
  have h2:=pre_len l fun x hx=>h x (by simp [hx])
  rw [pre_cons]
  simp; omega
theorem txt_len (l:List K) (h:SmKs l):(txt l).length≤17 * l.length:=by
 rw [txt_drop,List.length_drop]
 have:=pre_len l h
 omega
def sumL (l:List (List K)):Nat:=(l.map List.length).sum
theorem sumL_cons (a:List K) (l:List (List K)):sumL (a :: l)=a.length+sumL l:=by simp [sumL]
theorem getD_len (l:List (List K)):(l.getD 0 []).length+(l.getD 1 []).length≤sumL l:=by
 match l with
 | []=>simp [sumL]
 | [a]=>simp [sumL]
 | a :: b :: r=>simp [sumL]
theorem commas_tail (l:List (List K)):(l.flatMap fun u=>sg [44] :: u).length=sumL l+l.length:=by
 induction l with
 | nil=>simp [sumL]
 | cons a l ih=>rw [List.flatMap_cons,List.length_append,ih,sumL_cons]; simp; omega
theorem commas_len (l:List (List K)):(u1h l).length≤sumL l+l.length:=by
 cases l with
 | nil=>simp [u1h]
 | cons a l=>rw [u1h,List.length_append,commas_tail,sumL_cons]; simp; omega
theorem brace_len (b:List K):(u1j b).length=b.length+2:=by simp [u1j]
theorem body_len {nm:List UInt8→Bool} {dg:Int→List UInt8} {kind op num:Int} {name:List UInt8} {ks:List (List K)} (hs:u3y nm kind op num name ks.length=true):(u2b dg kind op num name ks).length≤9+sumL ks:=by
 have h01:=getD_len ks
 have hc:=commas_len ks
 have h6:kind=6→ks.length≤6:=fun h=>by subst h; simp [u3y] at hs; exact hs.2
 unfold u2b
 repeat' split
 all_goals simp only [List.length_cons,List.length_append,List.length_nil]
 all_goals first | omega | (have:=h6 (by omega); omega) | skip
mutual
theorem tE_len (nm:List UInt8→Bool):(e:Ex)→okE nm e=true→((tE dgL e).length:Int)≤9 * u5e e
 | .mk kind op num name kids,h=>by
  rw [okE,Bool.and_eq_true] at h
  rw [tE,u5e]
  have h1:=tEs_len nm kids h.2
  have hl:(tEs dgL kids).length=kids.length:=by rw [tEs_map,List.length_map]
  have h2:=body_len (dg:=dgL) (by rw [hl]; exact h.1)
  omega
theorem tEs_len (nm:List UInt8→Bool):(l:List Ex)→okEs nm l=true→(sumL (tEs dgL l):Int)≤9 * u0x l
 | [],_=>by rw [tEs,u0x]; simp [sumL]
 | e :: r,h=>by
  rw [okEs,Bool.and_eq_true] at h
  rw [tEs,u0x,sumL_cons]
  have h1:=tE_len nm e h.1
  have h2:=tEs_len nm r h.2
  omega
end
theorem st_len (kind op:Int) (name:List UInt8) (es:List (List K)) (b c:List K) (ne:Bool):(stT kind op name es b c ne).length≤9+sumL es+b.length+c.length:=by
 have h01:=getD_len es
 have hb:=brace_len b
 have hc:=brace_len c
 unfold stT
 repeat' split
 all_goals simp only [List.length_cons,List.length_append,List.length_nil]
 all_goals omega
mutual
theorem tS_len (nm:List UInt8→Bool):(s:St)→okS nm s=true→((tS dgL s).length:Int)≤9 * u6e s
 | .mk kind op name exprs body els,h=>by
  rw [okS] at h
  simp only [Bool.and_eq_true] at h
  rw [tS,u6e]
  have h1:=tEs_len nm exprs (by rw [okEs_all]; exact h.1.1.2)
  rw [tEs_map] at h1
  have h2:=tSs_len nm body h.1.2
  have h3:=tSs_len nm els h.2
  have h4:=st_len kind op name (exprs.map (tE dgL)) (tSs dgL body) (tSs dgL els) els.isEmpty
  omega
theorem tSs_len (nm:List UInt8→Bool):(l:List St)→okSs nm l=true→((tSs dgL l).length:Int)≤9 * u0u l
 | [],_=>by rw [tSs,u0u]; simp
 | s :: r,h=>by
  rw [okSs,Bool.and_eq_true] at h
  rw [tSs,u0u,List.length_append]
  have h1:=tS_len nm s h.1
  have h2:=tSs_len nm r h.2
  omega
end
def bodyI:It→List St
 | .fn _ _ b=>b
 | .ker _ _ _ b=>b
theorem sum_const {α:Type} (f:α→List K) (n:Nat) (h:∀ a,(f a).length=n) (l:List α):sumL (l.map f)=n * l.length:=by
 induction l with
 | nil=>simp [sumL]
 | cons a l ih=>rw [List.map_cons,sumL_cons,ih,h,List.length_cons,Nat.mul_succ]; omega
theorem flat_const {α:Type} (f:α→List K) (n:Nat) (h:∀ a,(f a).length=n) (l:List α):(l.flatMap f).length=n * l.length:=by
 induction l with
 | nil=>simp
 | cons a l ih=>rw [List.flatMap_cons,List.length_append,ih,h,List.length_cons,Nat.mul_succ]; omega
theorem tI_len (nm:List UInt8→Bool) (i:It) (h:okI nm i=true):((tI dgL i).length:Int)≤60+9 * u0u (bodyI i):=by
 cases i with
 | fn x ps b =>
  simp only [okI,Bool.and_eq_true,decide_eq_true_eq] at h
  have h1:=tSs_len nm b h.2
  have h2:=commas_len (ps.map fun y=>[((0:Int),y,(0:Int))])
  rw [sum_const _ 1 (fun _=>rfl),List.length_map] at h2
  rw [tI]
  simp only [List.length_cons,List.length_append,brace_len]
  have:=h.1.2
  show _≤60+9 * u0u b
  omega
 | ker x ps sh b =>
  simp only [okI,Bool.and_eq_true,decide_eq_true_eq] at h
  obtain ⟨⟨⟨⟨-,h3⟩,-⟩,h4⟩,h5⟩:=h
  have h1:=tSs_len nm b h5
  have h2:=commas_len (ps.map u4u)
  rw [sum_const _ 2 (fun _=>rfl),List.length_map] at h2
  rw [tI]
  simp only [List.length_cons,List.length_append,brace_len]
  rw [flat_const _ 6 (fun _=>rfl)]
  show _≤60+9 * u0u b
  omega
def u4q:List It→Int
 | []=>0
 | i :: r=>u0u (bodyI i)+u4q r
theorem tIs_len (nm:List UInt8→Bool):∀ l:List It,(∀ i∈l,okI nm i=true)→((l.flatMap (tI dgL)).length:Int)≤60 * l.length+9 * u4q l
 | [],_=>by simp [u4q]
 | i :: r,h=>by
  have h1:=tI_len nm i (h i (by simp))
  have h2:=tIs_len nm r fun j hj=>h j (by simp [hj])
  rw [List.flatMap_cons,List.length_append,u4q,List.length_cons]
  omega
end Go.Proofs.YtbkhnilbgocpnaaGreatDoor.SynC
namespace Go.Proofs.YtbkhnilbgocpnaaGreatDoor.SynC
def fitE (nm:List UInt8→Bool) (p lv:Int) (e:Ex):Bool:=okE nm e&&decide (p+u5e e≤400)&&decide (lv+depthE e≤13)
def fitEs (nm:List UInt8→Bool) (p lv:Int) (l:List Ex):Bool:=okEs nm l&&decide (p+u0x l≤400)&&decide (lv+u1w l≤13)
def fitS (nm:List UInt8→Bool) (p lv:Int) (s:St):Bool:=okS nm s&&decide (p+u6e s≤400)&&decide (lv+depthS s≤13)&&decide (exdS s≤12)
def u6d (nm:List UInt8→Bool) (p lv:Int) (l:List St):Bool:=okSs nm l&&decide (p+u0u l≤400)&&decide (lv+u1n l≤13)&&decide (u3v l≤12)
theorem bool_eq {a b:Bool} (h:a=true↔b=true):a=b:=by cases a <;> cases b <;> simp_all
theorem fitE_mk (nm:List UInt8→Bool) (p lv:Int) (kind op num:Int) (name:List UInt8) (kids:List Ex) :
  fitE nm p lv (.mk kind op num name kids)=(decide (p+1≤400)&&decide (lv≤12)&&u3y nm kind op num name kids.length&&fitEs nm (p+1) (lv+1) kids):=by
 have h1:=u2p kids
 have h2:=u5o kids
 refine bool_eq ?_
 unfold fitE fitEs
 rw [okE,u5e,depthE]
 simp only [Bool.and_eq_true,decide_eq_true_eq]
 constructor
 ·rintro ⟨⟨⟨a,b⟩,c⟩,d⟩; exact ⟨⟨⟨by omega,by omega⟩,a⟩,⟨b,by omega⟩,by omega⟩
 ·rintro ⟨⟨⟨_,_⟩,a⟩,⟨b,c⟩,d⟩; exact ⟨⟨⟨a,b⟩,by omega⟩,by omega⟩
theorem fitEs_cons (nm:List UInt8→Bool) (p lv:Int) (e:Ex) (r:List Ex):fitEs nm p lv (e :: r)=(fitE nm p lv e&&fitEs nm (p+u5e e) lv r):=by
 have h1:=u2p r
 refine bool_eq ?_
 unfold fitE fitEs
 rw [okEs,u0x,u1w]
 simp only [Bool.and_eq_true,decide_eq_true_eq]
 constructor
 ·rintro ⟨⟨⟨a,b⟩,c⟩,d⟩; exact ⟨⟨⟨a,by omega⟩,by omega⟩,⟨b,by omega⟩,by omega⟩
 ·rintro ⟨⟨⟨a,_⟩,_⟩,⟨b,c⟩,d⟩; exact ⟨⟨⟨a,b⟩,by omega⟩,by omega⟩
theorem fitEs_nil (nm:List UInt8→Bool) (p lv:Int) (hp:p≤400) (hl:lv≤13):fitEs nm p lv []=true:=by
 unfold fitEs; rw [okEs,u0x,u1w]; simp; omega
theorem fitE_le {nm:List UInt8→Bool} {p lv:Int} {e:Ex} (h:fitE nm p lv e=true):p+u5e e≤400:=by
 unfold fitE at h; simp only [Bool.and_eq_true,decide_eq_true_eq] at h; exact h.1.2
theorem fitEs_le {nm:List UInt8→Bool} {p lv:Int} {l:List Ex} (h:fitEs nm p lv l=true):p+u0x l≤400:=by
 unfold fitEs at h; simp only [Bool.and_eq_true,decide_eq_true_eq] at h; exact h.1.2
theorem fitS_mk (nm:List UInt8→Bool) (p lv:Int) (kind op:Int) (name:List UInt8) (exprs:List Ex) (body els:List St) :
  fitS nm p lv (.mk kind op name exprs body els)=(decide (p+1≤400)&&decide (lv≤12)&&u3x nm kind op name exprs.length body.isEmpty els.isEmpty&&fitEs nm (p+1) 1 exprs&&u6d nm (p+1+u0x exprs) (lv+1) body&&u6d nm (p+1+u0x exprs+u0u body) (lv+1) els):=by
 have h1:=u2p exprs
 have h2:=u5o exprs
 have h3:=u1t body
 have h4:=u1t els
 have h5:=u4b body
 have h6:=u4b els
 refine bool_eq ?_
 unfold fitS fitEs u6d
 rw [okS,u6e,depthS,exdS,← okEs_all]
 simp only [Bool.and_eq_true,decide_eq_true_eq]
 constructor
 ·rintro ⟨⟨⟨⟨⟨⟨a,b⟩,c⟩,d⟩,e⟩,f⟩,g⟩
  exact ⟨⟨⟨⟨⟨by omega,by omega⟩,a⟩,⟨b,by omega⟩,by omega⟩,⟨⟨c,by omega⟩,by omega⟩,by omega⟩,⟨⟨d,by omega⟩,by omega⟩,by omega⟩
 ·rintro ⟨⟨⟨⟨⟨_,_⟩,a⟩,⟨b,_⟩,f⟩,⟨⟨c,_⟩,_⟩,_⟩,⟨⟨d,_⟩,_⟩,_⟩
  exact ⟨⟨⟨⟨⟨⟨a,b⟩,c⟩,d⟩,by omega⟩,by omega⟩,by omega⟩
theorem fitSs_cons (nm:List UInt8→Bool) (p lv:Int) (s:St) (r:List St):u6d nm p lv (s :: r)=(fitS nm p lv s&&u6d nm (p+u6e s) lv r):=by
 have h1:=u1t r
 refine bool_eq ?_
 unfold fitS u6d
 rw [okSs,u0u,u1n,u3v]
 simp only [Bool.and_eq_true,decide_eq_true_eq]
 constructor
 ·rintro ⟨⟨⟨⟨a,b⟩,c⟩,d⟩,e⟩; exact ⟨⟨⟨⟨a,by omega⟩,by omega⟩,by omega⟩,⟨⟨b,by omega⟩,by omega⟩,by omega⟩
 ·rintro ⟨⟨⟨⟨a,_⟩,_⟩,_⟩,⟨⟨b,_⟩,_⟩,_⟩; exact ⟨⟨⟨⟨a,b⟩,by omega⟩,by omega⟩,by omega⟩
theorem fitSs_nil (nm:List UInt8→Bool) (p lv:Int) (hp:p≤400) (hl:lv≤13):u6d nm p lv []=true:=by
 unfold u6d; rw [okSs,u0u,u1n,u3v]; simp; omega
theorem fitS_le {nm:List UInt8→Bool} {p lv:Int} {s:St} (h:fitS nm p lv s=true):p+u6e s≤400:=by
 unfold fitS at h; simp only [Bool.and_eq_true,decide_eq_true_eq] at h; exact h.1.1.2
theorem fitSs_le {nm:List UInt8→Bool} {p lv:Int} {l:List St} (h:u6d nm p lv l=true):p+u0u l≤400:=by
 unfold u6d at h; simp only [Bool.and_eq_true,decide_eq_true_eq] at h; exact h.1.1.2
end Go.Proofs.YtbkhnilbgocpnaaGreatDoor.SynC
namespace Go.Proofs.YtbkhnilbgocpnaaGreatDoor.SynC
open Go.Proofs.YtbkhnilbgocpnaaGreatDoor.LexC
theorem sc_two (v:List UInt8) (R:List (Int × List UInt8 × Int)) (hv:∀ i,∃ M,sc v i=(M,none)∧M.map LexC.key=R) (L:List Tok) :
  (∀ t∈L,Good t)→∀ i,∃ M,sc (u4s (L.map (·.text))++10 :: v) i=(M,none)∧M.map LexC.key=L.map LexC.key++R:=by
 induction L with
 | nil =>
  intro _ i
  obtain ⟨M,hM,hk⟩:=hv (i+1)
  refine ⟨M,?_,hk⟩
  show sc (10 :: v) i=_
  rw [sc_blank _ _ ten_blank,hM]
 | cons t r ih =>
  intro hg i
  have ht:=hg t (by simp)
  cases r with
  | nil =>
   have hs:Sep (10 :: v):=.inr ⟨10,_,rfl,.inl (by decide)⟩
   have h1:=u6z ht hs i
   rw [sc_blank _ _ ten_blank] at h1
   obtain ⟨M,hM,hk⟩:=hv (i+t.text.length+1)
   rw [hM] at h1
   refine ⟨{ t with pos:=(i:Int) } :: M,h1,?_⟩
   simp only [List.map_cons,List.map_nil,List.cons_append,List.nil_append]
   rw [hk]; rfl
  | cons u q =>
   have hs:Sep (32 :: (u4s ((u :: q).map (·.text))++10 :: v)):=.inr ⟨32,_,rfl,.inl (by decide)⟩
   have h1:=u6z ht hs i
   rw [sc_blank _ _ (by decide)] at h1
   obtain ⟨M,hM,hk⟩:=ih (fun x hx=>hg x (by simp [hx])) (i+t.text.length+1)
   rw [hM] at h1
   refine ⟨{ t with pos:=(i:Int) } :: M,?_,?_⟩
   ·rw [List.map_cons,joinL_cons _ _ (by simp),List.append_assoc]
    exact h1
   ·simp only [List.map_cons,List.cons_append] at hk ⊢
    rw [hk]; rfl
theorem txt_any {l:List K} (h:u2n l) (i:Nat):∃ M,sc (txt l) i=(M,none)∧M.map LexC.key=l:=by
 obtain ⟨M,h1,h2⟩:=sc_join (l.map tokOf) (fun t ht=>by obtain ⟨k,hk,rfl⟩:=List.mem_map.1 ht; exact h k hk) i
 refine ⟨M,?_,?_⟩
 ·have e:(l.map tokOf).map (·.text)=l.map (·.2.1):=by rw [List.map_map]; rfl
  rw [e] at h1; exact h1
 ·rw [h2,List.map_map]
  have:LexC.key ∘ tokOf=id:=by funext k; rfl
  rw [this,List.map_id]
theorem txt_two {l m:List K} (hl:u2n l) (hm:u2n m):∃ M,sc (txt l++10 :: txt m) 0=(M,none)∧M.map LexC.key=l++m:=by
 obtain ⟨M,h1,h2⟩:=sc_two (txt m) m (fun i=>txt_any hm i) (l.map tokOf) (fun t ht=>by obtain ⟨k,hk,rfl⟩:=List.mem_map.1 ht; exact hl k hk) 0
 refine ⟨M,?_,?_⟩
 ·have e:(l.map tokOf).map (·.text)=l.map (·.2.1):=by rw [List.map_map]; rfl
  rw [e] at h1; exact h1
 ·rw [h2,List.map_map]
  have:LexC.key ∘ tokOf=id:=by funext k; rfl
  rw [this,List.map_id]
end Go.Proofs.YtbkhnilbgocpnaaGreatDoor.SynC
