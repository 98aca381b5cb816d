import Derived.Test.YtbkhnilbgocpnaaGreatDoorZ0
set_option linter.unusedVariables false
set_option linter.unusedSimpArgs false
namespace Go.Proofs.YtbkhnilbgocpnaaGreatDoor.SynC
abbrev K := Int × List UInt8 × Int
def sg (s : List UInt8) : K := (2, s, 0)
def isS (s : List UInt8) (t : K) : Bool := t.1 == 2 && t.2.1 == s
inductive Ex where
  | mk (kind op num : Int) (name : List UInt8) (kids : List Ex)
inductive Res (α : Type) where
  | ok (a : α) (r : List K)
  | no (r : List K)
def Res.bind {α β : Type} (x : Res α) (f : α → List K → Res β) : Res β :=
  match x with
  | .ok a r => f a r
  | .no r => .no r
theorem bind_congr {α β : Type} {x : Res α} {f g : α → List K → Res β} (h : ∀ a r, x = .ok a r → f a r = g a r) : x.bind f = x.bind g := by
  cases x with
  | ok a r => exact h a r rfl
  | no r => rfl
theorem bind_ok {α β : Type} {x : Res α} {f : α → List K → Res β} {b : β} {r : List K} (h : x.bind f = .ok b r) : ∃ a q, x = .ok a q ∧ f a q = .ok b r := by
  cases x with
  | ok a q => exact ⟨a, q, rfl, h⟩
  | no q => cases h
def need {β : Type} (s : List UInt8) (l : List K) (f : List K → Res β) : Res β :=
  match l with
  | t :: r => if isS s t then f r else .no l
  | [] => .no []
theorem need_congr {β : Type} {s : List UInt8} {l : List K} {f g : List K → Res β} (h : ∀ t r, l = t :: r → f r = g r) : need s l f = need s l g := by
  cases l with
  | nil => rfl
  | cons t r => unfold need; simp only; rw [h t r rfl]
theorem need_ok {β : Type} {s : List UInt8} {l : List K} {f : List K → Res β} {b : β} {q : List K} (h : need s l f = .ok b q) : ∃ t r, l = t :: r ∧ isS s t = true ∧ f r = .ok b q := by
  cases l with
  | nil => cases h
  | cons t r =>
    unfold need at h
    simp only at h
    split at h
    · rename_i ht; exact ⟨t, r, rfl, ht, h⟩
    · cases h
theorem need_hit {β : Type} {s : List UInt8} {t : K} {r : List K} {f : List K → Res β} (h : isS s t = true) : need s (t :: r) f = f r := by
  unfold need; simp only; rw [if_pos h]
def lev : Nat → List (List UInt8 × Int)
  | 1 => [([124, 124], 17)]
  | 2 => [([38, 38], 16)]
  | 3 => [([124], 6)]
  | 4 => [([94], 7)]
  | 5 => [([38], 5)]
  | 6 => [([61, 61], 13), ([33, 61], 14)]
  | 7 => [([60], 11), ([60, 61], 12), ([62], 11), ([62, 61], 12), ([60, 58], 15)]
  | 8 => [([60, 60], 8), ([62, 62], 9), ([62, 62, 62], 10)]
  | 9 => [([43], 0), ([45], 1)]
  | _ => [([42], 2), ([47], 3), ([37], 4)]
def opOf (n : Nat) (t : K) : Option Int := if t.1 == 2 then (lev n).lookup t.2.1 else none
def bin (op : Int) (s : List UInt8) (a b : Ex) : Ex := if s == [62] || s == [62, 61] then .mk 4 op 0 [] [b, a] else .mk 4 op 0 [] [a, b]
def unOf (t : K) : Option Int := if t.1 == 2 then [([45], (0 : Int)), ([126], 1), ([33], 2)].lookup t.2.1 else none
def spOf (t : K) : Option Int := if t.1 == 2 then [([116, 105, 100], (0 : Int)), ([98, 105, 100], 1), ([100, 105, 109], 2), ([103, 114, 105, 100], 3)].lookup t.2.1 else none
def mmOf (t : K) : Option Int := if t.1 == 2 then [([109, 105, 110], (18 : Int)), ([109, 97, 120], 19)].lookup t.2.1 else none
inductive Cmd where
  | ex (n : Nat)
  | tail (n : Nat) (a : Ex)
  | un
  | prim
  | named (x : List UInt8)
  | args (x : List UInt8) (kids : List Ex)
abbrev Rec := Cmd → List K → Res Ex
def step (p : Rec) : Cmd → List K → Res Ex
  | .ex n, l => if 10 < n then p .un l else (p (.ex (n + 1)) l).bind fun a r => p (.tail n a) r
  | .tail n a, l =>
    match l with
    | [] => .ok a []
    | t :: r =>
      match opOf n t with
      | some op => (p (.ex (n + 1)) r).bind fun b q => p (.tail n (bin op t.2.1 a b)) q
      | none => .ok a (t :: r)
  | .un, l =>
    match l with
    | [] => p .prim []
    | t :: r =>
      match unOf t with
      | some op => (p .un r).bind fun a q => .ok (.mk 3 op 0 [] [a]) q
      | none => p .prim (t :: r)
  | .prim, l =>
    match l with
    | [] => .no []
    | t :: r =>
      if t.1 == 1 then .ok (.mk 0 0 t.2.2 [] []) r
      else if t.1 == 0 then p (.named t.2.1) r
      else
        match mmOf t with
        | some op => need [40] r fun r1 => (p (.ex 1) r1).bind fun a r2 => need [44] r2 fun r3 => (p (.ex 1) r3).bind fun b r4 => need [41] r4 fun r5 => .ok (.mk 4 op 0 [] [a, b]) r5
        | none =>
          match spOf t with
          | some i => .ok (.mk 2 i 0 [] []) r
          | none => need [40] (t :: r) fun r1 => (p (.ex 1) r1).bind fun e r2 => need [41] r2 fun r3 => .ok e r3
  | .named x, l =>
    match l with
    | [] => .ok (.mk 1 0 0 x []) []
    | t :: r =>
      if isS [91] t then (p (.ex 1) r).bind fun e r2 => need [93] r2 fun r3 => .ok (.mk 5 0 0 x [e]) r3
      else if isS [40] t then
        match r with
        | [] => (p (.ex 1) []).bind fun e r2 => p (.args x [e]) r2
        | u :: q => if isS [41] u then .ok (.mk 6 0 0 x []) q else (p (.ex 1) (u :: q)).bind fun e r2 => p (.args x [e]) r2
      else .ok (.mk 1 0 0 x []) (t :: r)
  | .args x kids, l =>
    match l with
    | [] => .no []
    | t :: r =>
      if isS [44] t then (p (.ex 1) r).bind fun e r2 => p (.args x (kids ++ [e])) r2
      else if isS [41] t then .ok (.mk 6 0 0 x kids) r
      else .no (t :: r)
def go : Nat → Rec
  | 0 => fun _ l => .no l
  | f + 1 => step (go f)
def wt : Cmd → Nat
  | .ex n => 3 + (12 - n)
  | .un => 2
  | .prim => 1
  | _ => 0
def mu (c : Cmd) (l : List K) : Nat := 16 * l.length + wt c
def dl : Cmd → Nat
  | .ex _ => 1
  | .un => 1
  | .prim => 1
  | _ => 0
def LenP (p : Rec) : Prop := ∀ c l a r, p c l = .ok a r → r.length + dl c ≤ l.length
theorem step_len {p : Rec} (h : LenP p) : LenP (step p) := by
  intro c l a r e
  cases c with
  | ex n =>
    simp only [step] at e
    split at e
    · have h1 := h _ _ _ _ e
      simp only [dl] at *
      omega
    · obtain ⟨b, q, e1, e2⟩ := bind_ok e
      have h1 := h _ _ _ _ e1
      have h2 := h _ _ _ _ e2
      simp only [dl] at *
      omega
  | tail n x =>
    simp only [step] at e
    split at e
    · cases e; simp [dl]
    · split at e
      · obtain ⟨b, q, e1, e2⟩ := bind_ok e
        have h1 := h _ _ _ _ e1
        have h2 := h _ _ _ _ e2
        simp only [dl, List.length_cons] at *
        omega
      · cases e; simp [dl]
  | un =>
    simp only [step] at e
    split at e
    · have h1 := h _ _ _ _ e
      simp only [dl] at *
      omega
    · split at e
      · obtain ⟨b, q, e1, e2⟩ := bind_ok e
        have h1 := h _ _ _ _ e1
        cases e2
        simp only [dl, List.length_cons] at *
        omega
      · have h1 := h _ _ _ _ e
        simp only [dl] at *
        omega
  | prim =>
    simp only [step] at e
    split at e
    · cases e
    · split at e
      · cases e; simp [dl]
      · split at e
        · have h1 := h _ _ _ _ e
          simp only [dl, List.length_cons] at *
          omega
        · split at e
          · obtain ⟨t1, r1, rfl, _, e⟩ := need_ok e
            obtain ⟨b, q, e1, e⟩ := bind_ok e
            obtain ⟨t2, r2, rfl, _, e⟩ := need_ok e
            obtain ⟨b2, q2, e2, e⟩ := bind_ok e
            obtain ⟨t3, r3, rfl, _, e⟩ := need_ok e
            have h1 := h _ _ _ _ e1
            have h2 := h _ _ _ _ e2
            cases e
            simp only [dl, List.length_cons] at *
            omega
          · split at e
            · cases e; simp [dl]
            · obtain ⟨t1, r1, e0, _, e⟩ := need_ok e
              cases e0
              obtain ⟨b, q, e1, e⟩ := bind_ok e
              obtain ⟨t2, r2, rfl, _, e⟩ := need_ok e
              have h1 := h _ _ _ _ e1
              cases e
              simp only [dl, List.length_cons] at *
              omega
  | named x =>
    simp only [step] at e
    split at e
    · cases e; simp [dl]
    · split at e
      · obtain ⟨b, q, e1, e⟩ := bind_ok e
        obtain ⟨t2, r2, rfl, _, e⟩ := need_ok e
        have h1 := h _ _ _ _ e1
        cases e
        simp only [dl, List.length_cons] at *
        omega
      · split at e
        · split at e
          · obtain ⟨b, q, e1, e⟩ := bind_ok e
            have h1 := h _ _ _ _ e1
            have h2 := h _ _ _ _ e
            simp only [dl, List.length_cons, List.length_nil] at *
            omega
          · split at e
            · cases e; simp [dl]; omega
            · obtain ⟨b, q, e1, e⟩ := bind_ok e
              have h1 := h _ _ _ _ e1
              have h2 := h _ _ _ _ e
              simp only [dl, List.length_cons] at *
              omega
        · cases e; simp [dl]
  | args x kids =>
    simp only [step] at e
    split at e
    · cases e
    · split at e
      · obtain ⟨b, q, e1, e⟩ := bind_ok e
        have h1 := h _ _ _ _ e1
        have h2 := h _ _ _ _ e
        simp only [dl, List.length_cons] at *
        omega
      · split at e
        · cases e; simp [dl]
        · cases e
theorem go_len : ∀ f, LenP (go f)
  | 0 => fun _ _ _ _ h => by cases h
  | f + 1 => step_len (go_len f)
theorem step_congr {p q : Rec} (c : Cmd) (l : List K) (hl : LenP q) (h : ∀ c' l', mu c' l' < mu c l → p c' l' = q c' l') : step p c l = step q c l := by
  cases c with
  | ex n =>
    simp only [step]
    split
    · exact h _ _ (by simp only [mu, wt]; omega)
    · rw [h (.ex (n + 1)) l (by simp only [mu, wt]; omega)]
      refine bind_congr fun a r e => h _ _ ?_
      have := hl _ _ _ _ e
      simp only [dl, mu, wt] at *
      omega
  | tail n x =>
    simp only [step]
    split
    · rfl
    · split
      · rename_i t r _ op _
        rw [h (.ex (n + 1)) r (by simp only [mu, wt, List.length_cons]; omega)]
        refine bind_congr fun a r e => h _ _ ?_
        have := hl _ _ _ _ e
        simp only [dl, mu, wt, List.length_cons] at *
        omega
      · rfl
  | un =>
    simp only [step]
    split
    · exact h _ _ (by simp only [mu, wt]; omega)
    · split
      · rename_i t r _ op _
        rw [h .un r (by simp only [mu, wt, List.length_cons]; omega)]
      · exact h _ _ (by simp only [mu, wt]; omega)
  | prim =>
    simp only [step]
    split
    · rfl
    · rename_i t r
      split
      · rfl
      · split
        · exact h _ _ (by simp only [mu, wt, List.length_cons]; omega)
        · split
          · refine need_congr fun t1 r1 e1 => ?_
            subst e1
            rw [h (.ex 1) r1 (by simp only [mu, wt, List.length_cons]; omega)]
            refine bind_congr fun a r2 e2 => need_congr fun t3 r3 e3 => ?_
            have h2 := hl _ _ _ _ e2
            subst e3
            rw [h (.ex 1) r3 (by simp only [dl, mu, wt, List.length_cons] at *; omega)]
          · split
            · rfl
            · refine need_congr fun t1 r1 e1 => ?_
              cases e1
              rw [h (.ex 1) r (by simp only [mu, wt, List.length_cons]; omega)]
  | named x =>
    simp only [step]
    split
    · rfl
    · rename_i t r
      split
      · rw [h (.ex 1) r (by simp only [mu, wt, List.length_cons]; omega)]
      · split
        · split
          · rw [h (.ex 1) [] (by simp only [mu, wt, List.length_cons, List.length_nil]; omega)]
            refine bind_congr fun a r2 e2 => h _ _ ?_
            have h2 := hl _ _ _ _ e2
            simp only [dl, mu, wt, List.length_cons, List.length_nil] at *
            omega
          · rename_i u q
            split
            · rfl
            · rw [h (.ex 1) (u :: q) (by simp only [mu, wt, List.length_cons]; omega)]
              refine bind_congr fun a r2 e2 => h _ _ ?_
              have h2 := hl _ _ _ _ e2
              simp only [dl, mu, wt, List.length_cons] at *
              omega
        · rfl
  | args x kids =>
    simp only [step]
    split
    · rfl
    · rename_i t r
      split
      · rw [h (.ex 1) r (by simp only [mu, wt, List.length_cons]; omega)]
        refine bind_congr fun a r2 e2 => h _ _ ?_
        have h2 := hl _ _ _ _ e2
        simp only [dl, mu, wt, List.length_cons] at *
        omega
      · rfl
theorem go_stable : ∀ f g c l, mu c l < f → mu c l < g → go f c l = go g c l
  | 0, _, _, _, h, _ => absurd h (Nat.not_lt_zero _)
  | _ + 1, 0, _, _, _, h => absurd h (Nat.not_lt_zero _)
  | f + 1, g + 1, c, l, hf, hg => step_congr c l (go_len g) fun c' l' h => go_stable f g c' l' (by omega) (by omega)
def PE (c : Cmd) (l : List K) : Res Ex := go (mu c l + 1) c l
theorem go_PE {f : Nat} {c : Cmd} {l : List K} (h : mu c l < f) : go f c l = PE c l := go_stable _ _ c l h (Nat.lt_succ_self _)
theorem PE_len : LenP PE := fun c l a r h => go_len _ c l a r h
theorem PE_eq (c : Cmd) (l : List K) : PE c l = step PE c l := by
  show step (go (mu c l)) c l = _
  exact step_congr c l PE_len fun c' l' h => go_PE h
end Go.Proofs.YtbkhnilbgocpnaaGreatDoor.SynC
namespace Go.Proofs.YtbkhnilbgocpnaaGreatDoor.SynC
def commasT : List (List K) → List K
  | [] => []
  | t :: r => t ++ r.flatMap fun u => sg [44] :: u
def opText (op : Int) : List UInt8 :=
  if op = 0 then [43] else if op = 1 then [45] else if op = 2 then [42] else if op = 3 then [47] else if op = 4 then [37] else if op = 5 then [38] else if op = 6 then [124] else if op = 7 then [94]
  else if op = 8 then [60, 60] else if op = 9 then [62, 62] else if op = 10 then [62, 62, 62] else if op = 11 then [60] else if op = 12 then [60, 61] else if op = 13 then [61, 61] else if op = 14 then [33, 61]
  else if op = 15 then [60, 58] else if op = 16 then [38, 38] else if op = 17 then [124, 124] else if op = 18 then [109, 105, 110] else [109, 97, 120]
def unText (op : Int) : List UInt8 := if op = 0 then [45] else if op = 1 then [126] else [33]
def spText (op : Int) : List UInt8 := if op = 0 then [116, 105, 100] else if op = 1 then [98, 105, 100] else if op = 2 then [100, 105, 109] else [103, 114, 105, 100]
def bodyT (dg : Int → List UInt8) (kind op num : Int) (name : List UInt8) (ks : List (List K)) : List K :=
  if kind = 0 then [(1, dg num, num)]
  else if kind = 2 then [sg (spText op)]
  else if kind = 3 then sg (unText op) :: ks.getD 0 []
  else if kind = 4 then
    if op = 18 ∨ op = 19 then sg (opText op) :: sg [40] :: (ks.getD 0 [] ++ sg [44] :: (ks.getD 1 [] ++ [sg [41]]))
    else sg [40] :: (ks.getD 0 [] ++ sg (opText op) :: (ks.getD 1 [] ++ [sg [41]]))
  else if kind = 5 then (0, name, 0) :: sg [91] :: (ks.getD 0 [] ++ [sg [93]])
  else if kind = 6 then (0, name, 0) :: sg [40] :: (commasT ks ++ [sg [41]])
  else [(0, name, 0)]
mutual
def tE (dg : Int → List UInt8) : Ex → List K
  | .mk kind op num name kids => bodyT dg kind op num name (tEs dg kids)
def tEs (dg : Int → List UInt8) : List Ex → List (List K)
  | [] => []
  | e :: r => tE dg e :: tEs dg r
end
theorem tEs_map (dg : Int → List UInt8) : ∀ l : List Ex, tEs dg l = l.map (tE dg)
  | [] => by rw [tEs]; rfl
  | e :: r => by rw [tEs, tEs_map dg r]; rfl
def shapeB (nm : List UInt8 → Bool) (kind op num : Int) (name : List UInt8) (n : Nat) : Bool :=
  if kind = 0 then op == 0 && name.isEmpty && (decide (0 ≤ num ∧ num < 2147483648) || num == -2147483648) && n == 0
  else if kind = 1 then op == 0 && nm name && num == 0 && n == 0
  else if kind = 2 then decide (0 ≤ op ∧ op < 4) && name.isEmpty && num == 0 && n == 0
  else if kind = 3 then decide (0 ≤ op ∧ op < 3) && name.isEmpty && num == 0 && n == 1
  else if kind = 4 then decide (0 ≤ op ∧ op < 20) && name.isEmpty && num == 0 && n == 2
  else if kind = 5 then op == 0 && nm name && num == 0 && n == 1
  else if kind = 6 then op == 0 && nm name && num == 0 && decide (n ≤ 6)
  else false
mutual
def okE (nm : List UInt8 → Bool) : Ex → Bool
  | .mk kind op num name kids => shapeB nm kind op num name kids.length && okEs nm kids
def okEs (nm : List UInt8 → Bool) : List Ex → Bool
  | [] => true
  | e :: r => okE nm e && okEs nm r
end
def NoOp (n m : Nat) (r : List K) : Prop := ∀ k, n ≤ k → k < m → ∀ t q, r = t :: q → opOf k t = none
theorem ex11 (l : List K) : PE (.ex 11) l = PE .un l := by rw [PE_eq, step, if_pos (by omega)]
theorem op_cases {op : Int} (h0 : 0 ≤ op) (h1 : op < 18) : op = 0 ∨ op = 1 ∨ op = 2 ∨ op = 3 ∨ op = 4 ∨ op = 5 ∨ op = 6 ∨ op = 7 ∨ op = 8 ∨ op = 9 ∨ op = 10 ∨ op = 11 ∨ op = 12 ∨ op = 13 ∨ op = 14 ∨ op = 15 ∨ op = 16 ∨ op = 17 := by omega
end Go.Proofs.YtbkhnilbgocpnaaGreatDoor.SynC
namespace Go.Proofs.YtbkhnilbgocpnaaGreatDoor.SynC
inductive St where
  | mk (kind op : Int) (name : List UInt8) (exprs : List Ex) (body els : List St)
def wIf : List UInt8 := [105, 102]
def wElse : List UInt8 := [101, 108, 115, 101]
def wWhile : List UInt8 := [119, 104, 105, 108, 101]
def wLet : List UInt8 := [108, 101, 116]
def wBreak : List UInt8 := [98, 114, 101, 97, 107]
def wContinue : List UInt8 := [99, 111, 110, 116, 105, 110, 117, 101]
def wReturn : List UInt8 := [114, 101, 116, 117, 114, 110]
def wBarrier : List UInt8 := [98, 97, 114, 114, 105, 101, 114]
def wAtomic : List UInt8 := [97, 116, 111, 109, 105, 99]
def wCollect : List UInt8 := [99, 111, 108, 108, 101, 99, 116]
def foldOf (t : K) : Option Int :=
  if t.1 == 2 then [([97, 100, 100], (0 : Int)), ([109, 105, 110], 18), ([109, 97, 120], 19), ([97, 110, 100], 5), ([111, 114], 6), ([120, 111, 114], 7)].lookup t.2.1 else none
def foldText (op : Int) : List UInt8 :=
  if op = 0 then [97, 100, 100] else if op = 18 then [109, 105, 110] else if op = 19 then [109, 97, 120] else if op = 5 then [97, 110, 100] else if op = 6 then [111, 114] else [120, 111, 114]
def needN {β : Type} (l : List K) (f : List UInt8 → List K → Res β) : Res β :=
  match l with
  | t :: r => if t.1 == 0 then f t.2.1 r else .no l
  | [] => .no []
def needI {β : Type} (l : List K) (f : Int → List K → Res β) : Res β :=
  match l with
  | t :: r => if t.1 == 1 then f t.2.2 r else .no l
  | [] => .no []
def needF {β : Type} (l : List K) (f : Int → List K → Res β) : Res β :=
  match l with
  | t :: r => match foldOf t with
    | some op => f op r
    | none => .no l
  | [] => .no []
def needE {β : Type} (l : List K) (f : Ex → List K → Res β) : Res β := (PE (.ex 1) l).bind f
theorem needF_hit {β : Type} {t : K} {op : Int} (h : foldOf t = some op) {r : List K} {f : Int → List K → Res β} : needF (t :: r) f = f op r := by
  unfold needF; simp only [h]
def Short {α : Type} (n : Nat) (x : Res α) : Prop := ∀ a r, x = .ok a r → r.length ≤ n
theorem short_ok {α : Type} {n : Nat} {a : α} {r : List K} (h : r.length ≤ n) : Short n (.ok a r) := fun _ _ e => by cases e; exact h
theorem short_no {α : Type} {n : Nat} {r : List K} : Short n (.no r : Res α) := fun _ _ e => by cases e
theorem short_bind {α β : Type} {n : Nat} {x : Res α} {f : α → List K → Res β} (h : ∀ a r, x = .ok a r → Short n (f a r)) : Short n (x.bind f) := by
  cases x with
  | ok a r => exact h a r rfl
  | no r => exact short_no
theorem short_need {β : Type} {n : Nat} {s : List UInt8} {l : List K} {f : List K → Res β} (h : ∀ r, r.length + 1 = l.length → Short n (f r)) : Short n (need s l f) := by
  cases l with
  | nil => exact short_no
  | cons t r => unfold need; simp only; split; exact h r rfl; exact short_no
theorem short_needN {β : Type} {n : Nat} {l : List K} {f : List UInt8 → List K → Res β} (h : ∀ x r, r.length + 1 = l.length → Short n (f x r)) : Short n (needN l f) := by
  cases l with
  | nil => exact short_no
  | cons t r => unfold needN; simp only; split; exact h _ r rfl; exact short_no
theorem short_needI {β : Type} {n : Nat} {l : List K} {f : Int → List K → Res β} (h : ∀ x r, r.length + 1 = l.length → Short n (f x r)) : Short n (needI l f) := by
  cases l with
  | nil => exact short_no
  | cons t r => unfold needI; simp only; split; exact h _ r rfl; exact short_no
theorem short_needF {β : Type} {n : Nat} {l : List K} {f : Int → List K → Res β} (h : ∀ x r, r.length + 1 = l.length → Short n (f x r)) : Short n (needF l f) := by
  cases l with
  | nil => exact short_no
  | cons t r => unfold needF; simp only; split; exact h _ r rfl; exact short_no
theorem short_needE {β : Type} {n : Nat} {l : List K} {f : Ex → List K → Res β} (h : ∀ x r, r.length + 1 ≤ l.length → Short n (f x r)) : Short n (needE l f) :=
  short_bind fun a r e => h a r (PE_len _ _ _ _ e)
theorem cong_need {β : Type} {s : List UInt8} {l : List K} {f g : List K → Res β} (h : ∀ r, r.length + 1 = l.length → f r = g r) : need s l f = need s l g :=
  need_congr fun t r e => h r (by rw [e]; rfl)
theorem cong_needE {β : Type} {l : List K} {f g : Ex → List K → Res β} (h : ∀ x r, r.length + 1 ≤ l.length → f x r = g x r) : needE l f = needE l g :=
  bind_congr fun a r e => h a r (PE_len _ _ _ _ e)
abbrev Rst := List K → Res (List St)
def elseP (p : Rst) (e : Ex) (b : List St) (l : List K) : Res St :=
  match l with
  | [] => .ok (.mk 3 0 [] [e] b []) []
  | t :: r => if isS wElse t then need [123] r fun r1 => (p r1).bind fun c r2 => .ok (.mk 3 0 [] [e] b c) r2 else .ok (.mk 3 0 [] [e] b []) (t :: r)
def retP (l : List K) : Res St :=
  match l with
  | [] => .no []
  | t :: r => if isS [59] t then .ok (.mk 7 0 [] [] [] []) r else needE (t :: r) fun e r1 => need [59] r1 fun r2 => .ok (.mk 7 0 [] [e] [] []) r2
def namP (x : List UInt8) (l : List K) : Res St :=
  match l with
  | [] => .no []
  | t :: r =>
    if isS [91] t then needE r fun a r1 => need [93] r1 fun r2 => need [61] r2 fun r3 => needE r3 fun b r4 => need [59] r4 fun r5 => .ok (.mk 2 0 x [a, b] [] []) r5
    else need [61] (t :: r) fun r1 => needE r1 fun e r2 => need [59] r2 fun r3 => .ok (.mk 1 0 x [e] [] []) r3
def stmtP (p : Rst) (t : K) (r : List K) : Res St :=
  if isS wIf t then needE r fun e r1 => need [123] r1 fun r2 => (p r2).bind fun b r3 => elseP p e b r3
  else if isS wWhile t then needE r fun e r1 => need [123] r1 fun r2 => (p r2).bind fun b r3 => .ok (.mk 4 0 [] [e] b []) r3
  else if isS wLet t then needN r fun x r1 => need [61] r1 fun r2 => needE r2 fun e r3 => need [59] r3 fun r4 => .ok (.mk 0 0 x [e] [] []) r4
  else if isS wBreak t then need [59] r fun r1 => .ok (.mk 5 0 [] [] [] []) r1
  else if isS wContinue t then need [59] r fun r1 => .ok (.mk 6 0 [] [] [] []) r1
  else if isS wReturn t then retP r
  else if isS wBarrier t then need [59] r fun r1 => .ok (.mk 8 0 [] [] [] []) r1
  else if isS wAtomic t then needF r fun op r1 => needN r1 fun x r2 => need [91] r2 fun r3 => needE r3 fun a r4 => need [93] r4 fun r5 => need [44] r5 fun r6 =>
    needE r6 fun b r7 => need [59] r7 fun r8 => .ok (.mk 9 op x [a, b] [] []) r8
  else if isS wCollect t then needN r fun x r1 => need [61] r1 fun r2 => needF r2 fun op r3 => needE r3 fun e r4 => need [59] r4 fun r5 => .ok (.mk 10 op x [e] [] []) r5
  else needN (t :: r) fun x r1 => namP x r1
def restP (p : Rst) (l : List K) : Res (List St) :=
  match l with
  | [] => .no []
  | t :: r => if isS [125] t then .ok [] r else (stmtP p t r).bind fun s q => (p q).bind fun ss q2 => .ok (s :: ss) q2
def goS : Nat → Rst
  | 0 => fun l => .no l
  | f + 1 => restP (goS f)
def LenS (p : Rst) : Prop := ∀ l a r, p l = .ok a r → r.length + 1 ≤ l.length
theorem elseP_len {p : Rst} (h : LenS p) (e : Ex) (b : List St) (l : List K) : Short l.length (elseP p e b l) := by
  unfold elseP
  split
  · exact short_ok (by simp)
  · split
    · refine short_need fun r1 h1 => short_bind fun a r2 h2 => short_ok ?_
      have := h _ _ _ h2
      simp only [List.length_cons]; omega
    · exact short_ok (by simp)
theorem retP_len (l : List K) : Short (l.length - 1) (retP l) := by
  unfold retP
  split
  · exact short_no
  · split
    · exact short_ok (by simp)
    · refine short_needE fun e r1 h1 => short_need fun r2 h2 => short_ok ?_
      simp only [List.length_cons] at *; omega
theorem namP_len (x : List UInt8) (l : List K) : Short (l.length - 1) (namP x l) := by
  unfold namP
  split
  · exact short_no
  · split
    · refine short_needE fun a r1 h1 => short_need fun r2 h2 => short_need fun r3 h3 => short_needE fun b r4 h4 => short_need fun r5 h5 => short_ok ?_
      simp only [List.length_cons] at *; omega
    · refine short_need fun r1 h1 => short_needE fun e r2 h2 => short_need fun r3 h3 => short_ok ?_
      simp only [List.length_cons] at *; omega
theorem stmtP_len {p : Rst} (h : LenS p) (t : K) (r : List K) : Short r.length (stmtP p t r) := by
  unfold stmtP
  split
  · refine short_needE fun e r1 h1 => short_need fun r2 h2 => short_bind fun b r3 h3 a r4 h4 => ?_
    have := h _ _ _ h3
    have := elseP_len h _ _ _ _ _ h4
    omega
  split
  · refine short_needE fun e r1 h1 => short_need fun r2 h2 => short_bind fun b r3 h3 => short_ok ?_
    have := h _ _ _ h3
    omega
  split
  · exact short_needN fun x r1 h1 => short_need fun r2 h2 => short_needE fun e r3 h3 => short_need fun r4 h4 => short_ok (by omega)
  split
  · exact short_need fun r1 h1 => short_ok (by omega)
  split
  · exact short_need fun r1 h1 => short_ok (by omega)
  split
  · intro a q e
    have := retP_len _ _ _ e
    omega
  split
  · exact short_need fun r1 h1 => short_ok (by omega)
  split
  · exact short_needF fun op r1 h1 => short_needN fun x r2 h2 => short_need fun r3 h3 => short_needE fun a r4 h4 => short_need fun r5 h5 => short_need fun r6 h6 =>
      short_needE fun b r7 h7 => short_need fun r8 h8 => short_ok (by omega)
  split
  · exact short_needN fun x r1 h1 => short_need fun r2 h2 => short_needF fun op r3 h3 => short_needE fun e r4 h4 => short_need fun r5 h5 => short_ok (by omega)
  · refine short_needN fun x r1 h1 a q e => ?_
    have := namP_len _ _ _ _ e
    simp only [List.length_cons] at h1
    omega
theorem restP_len {p : Rst} (h : LenS p) : LenS (restP p) := by
  intro l a r e
  unfold restP at e
  split at e
  · cases e
  · split at e
    · cases e; simp
    · obtain ⟨s, q, e1, e⟩ := bind_ok e
      obtain ⟨ss, q2, e2, e⟩ := bind_ok e
      have h1 := stmtP_len h _ _ _ _ e1
      have h2 := h _ _ _ e2
      cases e
      simp only [List.length_cons]; omega
theorem goS_len : ∀ f, LenS (goS f)
  | 0 => fun _ _ _ h => by cases h
  | f + 1 => restP_len (goS_len f)
theorem stmtP_congr {p q : Rst} (t : K) (r : List K) (hl : LenS q) (h : ∀ l, l.length < r.length → p l = q l) : stmtP p t r = stmtP q t r := by
  unfold stmtP
  split
  · refine cong_needE fun e r1 h1 => cong_need fun r2 h2 => ?_
    rw [h r2 (by omega)]
    refine bind_congr fun b r3 h3 => ?_
    have := hl _ _ _ h3
    unfold elseP
    split
    · rfl
    · rename_i u v
      split
      · refine cong_need fun r5 h5 => ?_
        rw [h r5 (by simp only [List.length_cons] at *; omega)]
      · rfl
  split
  · refine cong_needE fun e r1 h1 => cong_need fun r2 h2 => ?_
    rw [h r2 (by omega)]
  rfl
theorem restP_congr {p q : Rst} (l : List K) (hl : LenS q) (h : ∀ l', l'.length < l.length → p l' = q l') : restP p l = restP q l := by
  unfold restP
  split
  · rfl
  · rename_i t r
    split
    · rfl
    · rw [stmtP_congr t r hl fun l' h' => h l' (by simp only [List.length_cons]; omega)]
      refine bind_congr fun s q2 e => ?_
      have := stmtP_len hl _ _ _ _ e
      rw [h q2 (by simp only [List.length_cons]; omega)]
theorem goS_stable : ∀ f g l, l.length < f → l.length < g → goS f l = goS g l
  | 0, _, _, h, _ => absurd h (Nat.not_lt_zero _)
  | _ + 1, 0, _, _, h => absurd h (Nat.not_lt_zero _)
  | f + 1, g + 1, l, hf, hg => restP_congr l (goS_len g) fun l' h => goS_stable f g l' (by omega) (by omega)
def PR (l : List K) : Res (List St) := goS (l.length + 1) l
theorem goS_PR {f : Nat} {l : List K} (h : l.length < f) : goS f l = PR l := goS_stable _ _ l h (Nat.lt_succ_self _)
theorem PR_len : LenS PR := fun l a r h => goS_len _ l a r h
theorem PR_eq (l : List K) : PR l = restP PR l := by
  show restP (goS l.length) l = _
  exact restP_congr l PR_len fun l' h => goS_PR h
end Go.Proofs.YtbkhnilbgocpnaaGreatDoor.SynC
namespace Go.Proofs.YtbkhnilbgocpnaaGreatDoor.SynC
def braceT (b : List K) : List K := sg [123] :: (b ++ [sg [125]])
def stT (kind op : Int) (name : List UInt8) (es : List (List K)) (b c : List K) (ne : Bool) : List K :=
  if kind = 0 then sg wLet :: (0, name, 0) :: sg [61] :: (es.getD 0 [] ++ [sg [59]])
  else if kind = 1 then (0, name, 0) :: sg [61] :: (es.getD 0 [] ++ [sg [59]])
  else if kind = 2 then (0, name, 0) :: sg [91] :: (es.getD 0 [] ++ sg [93] :: sg [61] :: (es.getD 1 [] ++ [sg [59]]))
  else if kind = 3 then sg wIf :: (es.getD 0 [] ++ (braceT b ++ if ne then [] else sg wElse :: braceT c))
  else if kind = 4 then sg wWhile :: (es.getD 0 [] ++ braceT b)
  else if kind = 5 then [sg wBreak, sg [59]]
  else if kind = 6 then [sg wContinue, sg [59]]
  else if kind = 7 then sg wReturn :: (es.getD 0 [] ++ [sg [59]])
  else if kind = 9 then sg wAtomic :: sg (foldText op) :: (0, name, 0) :: sg [91] :: (es.getD 0 [] ++ sg [93] :: sg [44] :: (es.getD 1 [] ++ [sg [59]]))
  else if kind = 10 then sg wCollect :: (0, name, 0) :: sg [61] :: sg (foldText op) :: (es.getD 0 [] ++ [sg [59]])
  else [sg wBarrier, sg [59]]
mutual
def tS (dg : Int → List UInt8) : St → List K
  | .mk kind op name exprs body els => stT kind op name (exprs.map (tE dg)) (tSs dg body) (tSs dg els) els.isEmpty
def tSs (dg : Int → List UInt8) : List St → List K
  | [] => []
  | s :: r => tS dg s ++ tSs dg r
end
def foldsB (op : Int) : Bool := op == 0 || op == 18 || op == 19 || op == 5 || op == 6 || op == 7
def shapeSB (nm : List UInt8 → Bool) (kind op : Int) (name : List UInt8) (n : Nat) (nb ne : Bool) : Bool :=
  if kind = 0 ∨ kind = 1 then op == 0 && nm name && n == 1 && nb && ne
  else if kind = 2 then op == 0 && nm name && n == 2 && nb && ne
  else if kind = 3 then op == 0 && name.isEmpty && n == 1
  else if kind = 4 then op == 0 && name.isEmpty && n == 1 && ne
  else if kind = 5 ∨ kind = 6 ∨ kind = 8 then op == 0 && name.isEmpty && n == 0 && nb && ne
  else if kind = 7 then op == 0 && name.isEmpty && decide (n ≤ 1) && nb && ne
  else if kind = 9 then foldsB op && nm name && n == 2 && nb && ne
  else if kind = 10 then foldsB op && nm name && n == 1 && nb && ne
  else false
mutual
def okS (nm : List UInt8 → Bool) : St → Bool
  | .mk kind op name exprs body els => shapeSB nm kind op name exprs.length body.isEmpty els.isEmpty && exprs.all (okE nm) && okSs nm body && okSs nm els
def okSs (nm : List UInt8 → Bool) : List St → Bool
  | [] => true
  | s :: r => okS nm s && okSs nm r
end
end Go.Proofs.YtbkhnilbgocpnaaGreatDoor.SynC
namespace Go.Proofs.YtbkhnilbgocpnaaGreatDoor.SynC
inductive It where
  | fn (name : List UInt8) (params : List (List UInt8)) (body : List St)
  | ker (name : List UInt8) (params : List (List UInt8 × Bool)) (shared : List (List UInt8 × Int)) (body : List St)
def wFunc : List UInt8 := [102, 117, 110, 99]
def wKernel : List UInt8 := [107, 101, 114, 110, 101, 108]
def wBuffer : List UInt8 := [98, 117, 102, 102, 101, 114]
def wInt : List UInt8 := [105, 110, 116]
def wShared : List UInt8 := [115, 104, 97, 114, 101, 100]
def moreP {α : Type} (one : List K → Res α) : Nat → List K → Res (List α)
  | 0, l => .no l
  | f + 1, l =>
    match l with
    | [] => .no []
    | t :: r => if isS [44] t then (one r).bind fun a q => (moreP one f q).bind fun as q2 => .ok (a :: as) q2 else if isS [41] t then .ok [] r else .no (t :: r)
def listP {α : Type} (one : List K → Res α) (l : List K) : Res (List α) :=
  need [40] l fun r =>
    match r with
    | [] => .no []
    | t :: q => if isS [41] t then .ok [] q else (one (t :: q)).bind fun a q1 => (moreP one (q1.length + 1) q1).bind fun as q2 => .ok (a :: as) q2
def LenO {α : Type} (one : List K → Res α) : Prop := ∀ l a r, one l = .ok a r → r.length + 1 ≤ l.length
theorem moreP_len {α : Type} {one : List K → Res α} (h : LenO one) : ∀ f, LenO (moreP one f)
  | 0 => fun _ _ _ e => by cases e
  | f + 1 => by
    intro l a r e
    unfold moreP at e
    split at e
    · cases e
    · split at e
      · obtain ⟨b, q, e1, e⟩ := bind_ok e
        obtain ⟨bs, q2, e2, e⟩ := bind_ok e
        have h1 := h _ _ _ e1
        have h2 := moreP_len h f _ _ _ e2
        cases e
        simp only [List.length_cons]; omega
      · split at e
        · cases e; simp
        · cases e
theorem moreP_stable {α : Type} {one : List K → Res α} (h : LenO one) : ∀ f g l, l.length < f → l.length < g → moreP one f l = moreP one g l
  | 0, _, _, h, _ => absurd h (Nat.not_lt_zero _)
  | _ + 1, 0, _, _, h => absurd h (Nat.not_lt_zero _)
  | f + 1, g + 1, l, hf, hg => by
    unfold moreP
    split
    · rfl
    · rename_i t r
      split
      · refine bind_congr fun a q e => ?_
        have := h _ _ _ e
        simp only [List.length_cons] at hf hg
        rw [moreP_stable h f g q (by omega) (by omega)]
      · rfl
theorem listP_len {α : Type} {one : List K → Res α} (h : LenO one) : LenO (listP one) := by
  intro l a r e
  unfold listP at e
  obtain ⟨t, q, rfl, _, e⟩ := need_ok e
  split at e
  · cases e
  · split at e
    · cases e; simp
    · obtain ⟨b, q1, e1, e⟩ := bind_ok e
      obtain ⟨bs, q2, e2, e⟩ := bind_ok e
      have h1 := h _ _ _ e1
      have h2 := moreP_len h _ _ _ _ e2
      cases e
      simp only [List.length_cons] at *; omega
def nameO (l : List K) : Res (List UInt8) := needN l fun x r => .ok x r
def paramO (l : List K) : Res (List UInt8 × Bool) :=
  match l with
  | [] => .no []
  | t :: r => if isS wBuffer t then needN r fun x q => .ok (x, true) q else need wInt (t :: r) fun r1 => needN r1 fun x q => .ok (x, false) q
theorem nameO_len : LenO nameO := fun l a r e => by
  unfold nameO needN at e
  split at e
  · split at e
    · cases e; simp
    · cases e
  · cases e
theorem needN_ok {β : Type} {l : List K} {f : List UInt8 → List K → Res β} {b : β} {q : List K} (h : needN l f = .ok b q) : ∃ t r, l = t :: r ∧ t.1 = 0 ∧ f t.2.1 r = .ok b q := by
  unfold needN at h
  split at h
  · split at h
    · rename_i ht; exact ⟨_, _, rfl, by simpa using ht, h⟩
    · cases h
  · cases h
theorem needI_ok {β : Type} {l : List K} {f : Int → List K → Res β} {b : β} {q : List K} (h : needI l f = .ok b q) : ∃ t r, l = t :: r ∧ t.1 = 1 ∧ f t.2.2 r = .ok b q := by
  unfold needI at h
  split at h
  · split at h
    · rename_i ht; exact ⟨_, _, rfl, by simpa using ht, h⟩
    · cases h
  · cases h
theorem paramO_len : LenO paramO := fun l a r e => by
  unfold paramO at e
  split at e
  · cases e
  · split at e
    · obtain ⟨t1, r1, rfl, _, e⟩ := needN_ok e
      cases e; simp only [List.length_cons]; omega
    · obtain ⟨t1, r1, e1, _, e⟩ := need_ok e
      cases e1
      obtain ⟨t2, r2, rfl, _, e⟩ := needN_ok e
      cases e; simp only [List.length_cons]; omega
def sharedP : Nat → List K → Res (List (List UInt8 × Int))
  | 0, l => .no l
  | f + 1, l =>
    match l with
    | [] => .ok [] []
    | t :: r =>
      if isS wShared t then needN r fun x r1 => need [91] r1 fun r2 => needI r2 fun n r3 => need [93] r3 fun r4 => need [59] r4 fun r5 => (sharedP f r5).bind fun l r6 => .ok ((x, n) :: l) r6
      else .ok [] (t :: r)
theorem sharedP_len : ∀ f l, Short l.length (sharedP f l)
  | 0, l => short_no
  | f + 1, l => by
    unfold sharedP
    split
    · exact short_ok (by simp)
    · split
      · refine short_needN fun x r1 h1 => short_need fun r2 h2 => short_needI fun n r3 h3 => short_need fun r4 h4 => short_need fun r5 h5 => short_bind fun a r6 h6 => short_ok ?_
        have := sharedP_len f r5 _ _ h6
        simp only [List.length_cons]; omega
      · exact short_ok (by simp)
theorem cong_needN {β : Type} {l : List K} {f g : List UInt8 → List K → Res β} (h : ∀ x r, r.length + 1 = l.length → f x r = g x r) : needN l f = needN l g := by
  unfold needN
  split
  · split
    · exact h _ _ (by simp)
    · rfl
  · rfl
theorem cong_needI {β : Type} {l : List K} {f g : Int → List K → Res β} (h : ∀ x r, r.length + 1 = l.length → f x r = g x r) : needI l f = needI l g := by
  unfold needI
  split
  · split
    · exact h _ _ (by simp)
    · rfl
  · rfl
theorem sharedP_stable : ∀ f g l, l.length < f → l.length < g → sharedP f l = sharedP g l
  | 0, _, _, h, _ => absurd h (Nat.not_lt_zero _)
  | _ + 1, 0, _, _, h => absurd h (Nat.not_lt_zero _)
  | f + 1, g + 1, l, hf, hg => by
    unfold sharedP
    split
    · rfl
    · split
      · refine cong_needN fun x r1 h1 => cong_need fun r2 h2 => cong_needI fun n r3 h3 => cong_need fun r4 h4 => cong_need fun r5 h5 => ?_
        simp only [List.length_cons] at hf hg
        rw [sharedP_stable f g r5 (by omega) (by omega)]
      · rfl
def itemP (l : List K) : Res It :=
  match l with
  | [] => .no []
  | t :: r =>
    if isS wFunc t then needN r fun x r1 => (listP nameO r1).bind fun ps r2 => need [123] r2 fun r3 => (PR r3).bind fun b r4 => .ok (.fn x ps b) r4
    else need wKernel (t :: r) fun r1 => needN r1 fun x r2 => (listP paramO r2).bind fun ps r3 => need [123] r3 fun r4 => (sharedP (r4.length + 1) r4).bind fun sh r5 =>
      (PR r5).bind fun b r6 => .ok (.ker x ps sh b) r6
theorem itemP_len : LenO itemP := fun l a r e => by
  unfold itemP at e
  split at e
  · cases e
  · split at e
    · obtain ⟨t1, r1, rfl, _, e⟩ := needN_ok e
      obtain ⟨ps, r2, h2, e⟩ := bind_ok e
      obtain ⟨t3, r3, rfl, _, e⟩ := need_ok e
      obtain ⟨b, r4, h4, e⟩ := bind_ok e
      have h2 := listP_len nameO_len _ _ _ h2
      have h4 := PR_len _ _ _ h4
      cases e; simp only [List.length_cons] at *; omega
    · obtain ⟨t1, r1, e1, _, e⟩ := need_ok e
      cases e1
      obtain ⟨t2, r2, rfl, _, e⟩ := needN_ok e
      obtain ⟨ps, r3, h3, e⟩ := bind_ok e
      obtain ⟨t4, r4, rfl, _, e⟩ := need_ok e
      obtain ⟨sh, r5, h5, e⟩ := bind_ok e
      obtain ⟨b, r6, h6, e⟩ := bind_ok e
      have h3 := listP_len paramO_len _ _ _ h3
      have h5 := sharedP_len _ _ _ _ h5
      have h6 := PR_len _ _ _ h6
      cases e; simp only [List.length_cons] at *; omega
def progP : Nat → List K → Res (List It)
  | 0, l => .no l
  | f + 1, l =>
    match l with
    | [] => .ok [] []
    | t :: r => (itemP (t :: r)).bind fun i q => (progP f q).bind fun is q2 => .ok (i :: is) q2
theorem progP_stable : ∀ f g l, l.length < f → l.length < g → progP f l = progP g l
  | 0, _, _, h, _ => absurd h (Nat.not_lt_zero _)
  | _ + 1, 0, _, _, h => absurd h (Nat.not_lt_zero _)
  | f + 1, g + 1, l, hf, hg => by
    unfold progP
    split
    · rfl
    · refine bind_congr fun i q e => ?_
      have := itemP_len _ _ _ e
      rw [progP_stable f g q (by omega) (by omega)]
def PP (l : List K) : Res (List It) := progP (l.length + 1) l
theorem progP_PP {f : Nat} {l : List K} (h : l.length < f) : progP f l = PP l := progP_stable _ _ l h (Nat.lt_succ_self _)
theorem PP_nil : PP [] = .ok [] [] := rfl
theorem PP_cons (t : K) (r : List K) : PP (t :: r) = (itemP (t :: r)).bind fun i q => (PP q).bind fun is q2 => .ok (i :: is) q2 := by
  show (itemP (t :: r)).bind (fun i q => (progP (r.length + 1) q).bind fun is q2 => .ok (i :: is) q2) = _
  refine bind_congr fun i q e => ?_
  have := itemP_len _ _ _ e
  simp only [List.length_cons] at this
  rw [progP_PP (by omega)]
def paramT (a : List UInt8 × Bool) : List K := [sg (if a.2 then wBuffer else wInt), (0, a.1, 0)]
def sharedT (dg : Int → List UInt8) (a : List UInt8 × Int) : List K := [sg wShared, (0, a.1, 0), sg [91], (1, dg a.2, a.2), sg [93], sg [59]]
def tI (dg : Int → List UInt8) : It → List K
  | .fn x ps b => sg wFunc :: (0, x, 0) :: sg [40] :: (commasT (ps.map fun y => [((0 : Int), y, (0 : Int))]) ++ sg [41] :: braceT (tSs dg b))
  | .ker x ps sh b => sg wKernel :: (0, x, 0) :: sg [40] :: (commasT (ps.map paramT) ++ sg [41] :: braceT (sh.flatMap (sharedT dg) ++ tSs dg b))
def okI (nm : List UInt8 → Bool) : It → Bool
  | .fn x ps b => (nm x && ps.all nm && decide (ps.length ≤ 6)) && okSs nm b
  | .ker x ps sh b => (nm x && ps.all (fun a => nm a.1) && decide (ps.length ≤ 6) && sh.all (fun a => nm a.1 && decide (1 ≤ a.2 ∧ a.2 ≤ 64)) && decide (sh.length ≤ 4)) && okSs nm b
end Go.Proofs.YtbkhnilbgocpnaaGreatDoor.SynC
namespace Go.Proofs.YtbkhnilbgocpnaaGreatDoor.SynC
def Sfx {α : Type} (l : List K) (x : Res α) : Prop := (∀ a r, x = .ok a r → r <:+ l) ∧ ∀ r, x = .no r → r <:+ l
theorem Sfx.mono {α : Type} {l m : List K} {x : Res α} (h : Sfx l x) (hm : l <:+ m) : Sfx m x := ⟨fun a r e => (h.1 a r e).trans hm, fun r e => (h.2 r e).trans hm⟩
theorem sfx_ok {α : Type} {l r : List K} {a : α} (h : r <:+ l) : Sfx l (.ok a r) := ⟨fun _ _ e => (by cases e; exact h), fun _ e => (by cases e)⟩
theorem sfx_no {α : Type} {l r : List K} (h : r <:+ l) : Sfx l (.no r : Res α) := ⟨fun _ _ e => (by cases e), fun _ e => (by cases e; exact h)⟩
theorem sfx_bind {α β : Type} {l : List K} {x : Res α} {f : α → List K → Res β} (h : Sfx l x) (hf : ∀ a r, Sfx r (f a r)) : Sfx l (x.bind f) := by
  cases x with
  | ok a r => exact (hf a r).mono (h.1 a r rfl)
  | no r => exact sfx_no (h.2 r rfl)
theorem sfx_tl (t : K) (r : List K) : r <:+ t :: r := List.suffix_cons t r
theorem sfx_need {β : Type} {s : List UInt8} {l : List K} {f : List K → Res β} (hf : ∀ r, Sfx r (f r)) : Sfx l (need s l f) := by
  unfold need
  split
  · split
    · exact (hf _).mono (sfx_tl _ _)
    · exact sfx_no (List.suffix_refl _)
  · exact sfx_no (List.suffix_refl _)
theorem sfx_needN {β : Type} {l : List K} {f : List UInt8 → List K → Res β} (hf : ∀ x r, Sfx r (f x r)) : Sfx l (needN l f) := by
  unfold needN
  split
  · split
    · exact (hf _ _).mono (sfx_tl _ _)
    · exact sfx_no (List.suffix_refl _)
  · exact sfx_no (List.suffix_refl _)
theorem sfx_needI {β : Type} {l : List K} {f : Int → List K → Res β} (hf : ∀ x r, Sfx r (f x r)) : Sfx l (needI l f) := by
  unfold needI
  split
  · split
    · exact (hf _ _).mono (sfx_tl _ _)
    · exact sfx_no (List.suffix_refl _)
  · exact sfx_no (List.suffix_refl _)
theorem sfx_needF {β : Type} {l : List K} {f : Int → List K → Res β} (hf : ∀ x r, Sfx r (f x r)) : Sfx l (needF l f) := by
  unfold needF
  split
  · split
    · exact (hf _ _).mono (sfx_tl _ _)
    · exact sfx_no (List.suffix_refl _)
  · exact sfx_no (List.suffix_refl _)
theorem step_sfx {p : Rec} (h : ∀ c l, Sfx l (p c l)) (c : Cmd) (l : List K) : Sfx l (step p c l) := by
  cases c with
  | ex n =>
    simp only [step]
    split
    · exact h _ _
    · exact sfx_bind (h _ _) fun a r => h _ _
  | tail n x =>
    simp only [step]
    split
    · exact sfx_ok (List.suffix_refl _)
    · split
      · exact (sfx_bind (h _ _) fun a r => h _ _).mono (sfx_tl _ _)
      · exact sfx_ok (List.suffix_refl _)
  | un =>
    simp only [step]
    split
    · exact h _ _
    · split
      · exact (sfx_bind (h _ _) fun a r => sfx_ok (List.suffix_refl _)).mono (sfx_tl _ _)
      · exact h _ _
  | prim =>
    simp only [step]
    split
    · exact sfx_no (List.suffix_refl _)
    · split
      · exact sfx_ok (sfx_tl _ _)
      · split
        · exact (h _ _).mono (sfx_tl _ _)
        · split
          · exact (sfx_need fun r => sfx_bind (h _ _) fun a r => sfx_need fun r => sfx_bind (h _ _) fun a r => sfx_need fun r => sfx_ok (List.suffix_refl _)).mono (sfx_tl _ _)
          · split
            · exact sfx_ok (sfx_tl _ _)
            · exact sfx_need fun r => sfx_bind (h _ _) fun a r => sfx_need fun r => sfx_ok (List.suffix_refl _)
  | named x =>
    simp only [step]
    split
    · exact sfx_ok (List.suffix_refl _)
    · split
      · exact (sfx_bind (h _ _) fun a r => sfx_need fun r => sfx_ok (List.suffix_refl _)).mono (sfx_tl _ _)
      · split
        · split
          · exact (sfx_bind (h _ _) fun a r => h _ _).mono (sfx_tl _ _)
          · split
            · exact sfx_ok ((sfx_tl _ _).trans (sfx_tl _ _))
            · exact (sfx_bind (h _ _) fun a r => h _ _).mono (sfx_tl _ _)
        · exact sfx_ok (List.suffix_refl _)
  | args x kids =>
    simp only [step]
    split
    · exact sfx_no (List.suffix_refl _)
    · split
      · exact (sfx_bind (h _ _) fun a r => h _ _).mono (sfx_tl _ _)
      · split
        · exact sfx_ok (sfx_tl _ _)
        · exact sfx_no (List.suffix_refl _)
theorem go_sfx : ∀ f c l, Sfx l (go f c l)
  | 0, _, _ => sfx_no (List.suffix_refl _)
  | f + 1, c, l => step_sfx (go_sfx f) c l
theorem PE_sfx (c : Cmd) (l : List K) : Sfx l (PE c l) := go_sfx _ c l
end Go.Proofs.YtbkhnilbgocpnaaGreatDoor.SynC
namespace Go.Proofs.YtbkhnilbgocpnaaGreatDoor.SynC
theorem tail_stop {n : Nat} {a : Ex} {q : List K} (h : ∀ t r, q = t :: r → opOf n t = none) : PE (.tail n a) q = .ok a q := by
  rw [PE_eq]
  cases q with
  | nil => rfl
  | cons t r => simp only [step, h t r rfl]
end Go.Proofs.YtbkhnilbgocpnaaGreatDoor.SynC
namespace Go.Proofs.YtbkhnilbgocpnaaGreatDoor.SynC
open Go.Proofs.YtbkhnilbgocpnaaGreatDoor.LexC
def nmL : List UInt8 → Bool
  | [] => false
  | c :: r => letB c && (c :: r).all innB && decide ((c :: r).length ≤ 16) && !isWord (c :: r)
def digL (n : Nat) : List UInt8 := if h : n < 10 then [UInt8.ofNat (48 + n)] else digL (n / 10) ++ [UInt8.ofNat (48 + n % 10)]
termination_by n
decreasing_by omega
def dgL (i : Int) : List UInt8 := digL i.natAbs
def txt (l : List K) : List UInt8 := joinL (l.map (·.2.1))
end Go.Proofs.YtbkhnilbgocpnaaGreatDoor.SynC
namespace Go.Proofs.YtbkhnilbgocpnaaGreatDoor.SynC
structure Ms where
  parts : Int
  depth : Int
  right : Bool
mutual
def partsE : Ex → Int
  | .mk _ _ _ _ kids => 1 + partsEs kids
def partsEs : List Ex → Int
  | [] => 0
  | e :: r => partsE e + partsEs r
end
mutual
def depthE : Ex → Int
  | .mk _ _ _ _ kids => 1 + depthEs kids
def depthEs : List Ex → Int
  | [] => 0
  | e :: r => max (depthE e) (depthEs r)
end
mutual
def mE (nm : List UInt8 → Bool) (m : Ms) (below : Int) : Ex → Ms × Int
  | .mk kind op num name kids =>
    if m.right = false ∨ 400 < m.parts + 1 ∨ 12 < below ∨ shapeB nm kind op num name kids.length = false then (⟨m.parts + 1, m.depth, false⟩, 0)
    else ({ (mEs nm ⟨m.parts + 1, m.depth, true⟩ (below + 1) 0 kids).1 with depth := max (mEs nm ⟨m.parts + 1, m.depth, true⟩ (below + 1) 0 kids).1.depth ((mEs nm ⟨m.parts + 1, m.depth, true⟩ (below + 1) 0 kids).2 + 1) },
      (mEs nm ⟨m.parts + 1, m.depth, true⟩ (below + 1) 0 kids).2 + 1)
def mEs (nm : List UInt8 → Bool) (m : Ms) (below d : Int) : List Ex → Ms × Int
  | [] => (m, d)
  | e :: r => mEs nm (mE nm m below e).1 below (max d (mE nm m below e).2) r
end
mutual
theorem partsE_pos : (e : Ex) → 1 ≤ partsE e
  | .mk _ _ _ _ kids => by rw [partsE]; have := partsEs_pos kids; omega
theorem partsEs_pos : (l : List Ex) → 0 ≤ partsEs l
  | [] => by rw [partsEs]; omega
  | e :: r => by rw [partsEs]; have := partsE_pos e; have := partsEs_pos r; omega
end
mutual
theorem depthE_pos : (e : Ex) → 1 ≤ depthE e
  | .mk _ _ _ _ kids => by rw [depthE]; have := depthEs_pos kids; omega
theorem depthEs_pos : (l : List Ex) → 0 ≤ depthEs l
  | [] => by rw [depthEs]; omega
  | e :: r => by rw [depthEs]; have := depthE_pos e; omega
end
mutual
theorem mE_right (nm : List UInt8 → Bool) : (e : Ex) → ∀ (m : Ms) (below : Int), m.right = true → 0 ≤ m.depth → okE nm e = true → m.parts + partsE e ≤ 400 → below + depthE e ≤ 13 →
    mE nm m below e = (⟨m.parts + partsE e, max m.depth (depthE e), true⟩, depthE e)
  | .mk kind op num name kids, m, below, hr, hz, ho, hp, hd => by
    rw [okE, Bool.and_eq_true] at ho
    rw [partsE] at hp
    rw [depthE] at hd
    have h1 := partsEs_pos kids
    have h2 := depthEs_pos kids
    have hk := mEs_right nm kids ⟨m.parts + 1, m.depth, true⟩ (below + 1) 0 rfl hz (Int.le_refl _) ho.2 (by show m.parts + 1 + _ ≤ _; omega) (by omega)
    rw [mE, if_neg (by rw [hr, ho.1]; simp; omega), hk, partsE, depthE]
    simp only [Prod.mk.injEq, Ms.mk.injEq, and_true]
    refine ⟨⟨by omega, by omega⟩, by omega⟩
theorem mEs_right (nm : List UInt8 → Bool) : (l : List Ex) → ∀ (m : Ms) (below d : Int), m.right = true → 0 ≤ m.depth → 0 ≤ d → okEs nm l = true → m.parts + partsEs l ≤ 400 → below + depthEs l ≤ 13 →
    mEs nm m below d l = (⟨m.parts + partsEs l, max m.depth (depthEs l), true⟩, max d (depthEs l))
  | [], m, below, d, hr, hz, h0, _, _, _ => by
    rw [mEs, partsEs, depthEs]
    obtain ⟨p, q, r⟩ := m
    simp only at hr hz
    subst hr
    simp only [Prod.mk.injEq, Ms.mk.injEq, and_true]
    refine ⟨⟨by omega, by omega⟩, by omega⟩
  | e :: r, m, below, d, hr, hz, h0, ho, hp, hd => by
    rw [okEs, Bool.and_eq_true] at ho
    rw [partsEs] at hp
    rw [depthEs] at hd
    have h1 := partsEs_pos r
    rw [mEs, mE_right nm e m below hr hz ho.1 (by omega) (by omega), mEs_right nm r _ below _ rfl (by show (0 : Int) ≤ max _ _; omega) (by omega) ho.2 (by show m.parts + _ + _ ≤ _; omega) (by omega), partsEs, depthEs]
    simp only [Prod.mk.injEq, Ms.mk.injEq, and_true]
    refine ⟨⟨by omega, by omega⟩, by omega⟩
end
mutual
theorem mE_false (nm : List UInt8 → Bool) : (e : Ex) → ∀ (m : Ms) (below : Int), m.right = false → (mE nm m below e).1.right = false
  | .mk kind op num name kids, m, below, hr => by rw [mE, if_pos (.inl hr)]
theorem mEs_false (nm : List UInt8 → Bool) : (l : List Ex) → ∀ (m : Ms) (below d : Int), m.right = false → (mEs nm m below d l).1.right = false
  | [], m, below, d, hr => by rw [mEs]; exact hr
  | e :: r, m, below, d, hr => by rw [mEs]; exact mEs_false nm r _ below _ (mE_false nm e m below hr)
end
mutual
theorem mE_wrong (nm : List UInt8 → Bool) : (e : Ex) → ∀ (m : Ms) (below : Int), m.right = true → 0 ≤ m.depth → ¬ (okE nm e = true ∧ m.parts + partsE e ≤ 400 ∧ below + depthE e ≤ 13) → (mE nm m below e).1.right = false
  | .mk kind op num name kids, m, below, hr, hz, h => by
    rw [mE]
    split
    · rfl
    · rename_i hc
      rw [hr] at hc
      simp only [Bool.true_eq_false, false_or, not_or, Bool.not_eq_false] at hc
      refine mEs_wrong nm kids ⟨m.parts + 1, m.depth, true⟩ (below + 1) 0 rfl hz (Int.le_refl _) (by show m.parts + 1 ≤ 400; omega) (by omega) fun hk => h ?_
      obtain ⟨h1, h2, h3⟩ := hk
      rw [okE, partsE, depthE, hc.2.2, h1]
      have h2' : m.parts + 1 + partsEs kids ≤ 400 := h2
      exact ⟨rfl, by omega, by omega⟩
theorem mEs_wrong (nm : List UInt8 → Bool) : (l : List Ex) → ∀ (m : Ms) (below d : Int), m.right = true → 0 ≤ m.depth → 0 ≤ d → m.parts ≤ 400 → below ≤ 13 →
    ¬ (okEs nm l = true ∧ m.parts + partsEs l ≤ 400 ∧ below + depthEs l ≤ 13) → (mEs nm m below d l).1.right = false
  | [], m, below, d, _, _, _, hp, hb, h => (h (by rw [okEs, partsEs, depthEs]; exact ⟨rfl, by omega, by omega⟩)).elim
  | e :: r, m, below, d, hr, hz, h0, hp, hb, h => by
    rw [mEs]
    by_cases he : okE nm e = true ∧ m.parts + partsE e ≤ 400 ∧ below + depthE e ≤ 13
    · have := depthE_pos e
      rw [mE_right nm e m below hr hz he.1 he.2.1 he.2.2]
      refine mEs_wrong nm r _ below _ rfl (by show (0 : Int) ≤ max _ _; omega) (by omega) he.2.1 hb fun hk => h ?_
      obtain ⟨h1, h2, h3⟩ := hk
      have h2' : m.parts + partsE e + partsEs r ≤ 400 := h2
      rw [okEs, partsEs, depthEs, he.1, h1]
      exact ⟨rfl, by omega, by omega⟩
    · exact mEs_false nm r _ below _ (mE_wrong nm e m below hr hz he)
end
theorem okEs_all (nm : List UInt8 → Bool) : ∀ l : List Ex, okEs nm l = l.all (okE nm)
  | [] => by rw [okEs]; rfl
  | e :: r => by rw [okEs, okEs_all nm r]; rfl
mutual
def partsS : St → Int
  | .mk _ _ _ exprs body els => 1 + partsEs exprs + partsSs body + partsSs els
def partsSs : List St → Int
  | [] => 0
  | s :: r => partsS s + partsSs r
end
mutual
def depthS : St → Int
  | .mk _ _ _ _ body els => 1 + max (depthSs body) (depthSs els)
def depthSs : List St → Int
  | [] => 0
  | s :: r => max (depthS s) (depthSs r)
end
mutual
def exdS : St → Int
  | .mk _ _ _ exprs body els => max (depthEs exprs) (max (exdSs body) (exdSs els))
def exdSs : List St → Int
  | [] => 0
  | s :: r => max (exdS s) (exdSs r)
end
mutual
theorem partsS_pos : (s : St) → 1 ≤ partsS s
  | .mk _ _ _ exprs body els => by rw [partsS]; have := partsEs_pos exprs; have := partsSs_pos body; have := partsSs_pos els; omega
theorem partsSs_pos : (l : List St) → 0 ≤ partsSs l
  | [] => by rw [partsSs]; omega
  | s :: r => by rw [partsSs]; have := partsS_pos s; have := partsSs_pos r; omega
end
mutual
theorem depthS_pos : (s : St) → 1 ≤ depthS s
  | .mk _ _ _ _ body els => by rw [depthS]; have := depthSs_pos body; have := depthSs_pos els; omega
theorem depthSs_pos : (l : List St) → 0 ≤ depthSs l
  | [] => by rw [depthSs]; omega
  | s :: r => by rw [depthSs]; have := depthS_pos s; have := depthSs_pos r; omega
end
mutual
theorem exdS_pos : (s : St) → 0 ≤ exdS s
  | .mk _ _ _ exprs body els => by rw [exdS]; have := depthEs_pos exprs; have := exdSs_pos body; have := exdSs_pos els; omega
theorem exdSs_pos : (l : List St) → 0 ≤ exdSs l
  | [] => by rw [exdSs]; omega
  | s :: r => by rw [exdSs]; have := exdS_pos s; have := exdSs_pos r; omega
end
end Go.Proofs.YtbkhnilbgocpnaaGreatDoor.SynC
namespace Go.Proofs.YtbkhnilbgocpnaaGreatDoor.SynC
open Go.Proofs.YtbkhnilbgocpnaaGreatDoor.LexC
def pre (l : List K) : List UInt8 := l.flatMap fun k => 32 :: k.2.1
theorem pre_nil : pre [] = [] := rfl
theorem pre_cons (k : K) (l : List K) : pre (k :: l) = 32 :: (k.2.1 ++ pre l) := rfl
theorem pre_txt : ∀ (k : K) (l : List K), pre (k :: l) = 32 :: txt (k :: l)
  | k, [] => by simp [pre, txt, joinL]
  | k, m :: l => by
    rw [pre_cons, pre_txt m l]
    show 32 :: (k.2.1 ++ 32 :: joinL ((m :: l).map (·.2.1))) = 32 :: joinL (k.2.1 :: (m :: l).map (·.2.1))
    rw [joinL_cons k.2.1 ((m :: l).map (·.2.1)) (by simp)]
theorem txt_drop (l : List K) : txt l = (pre l).drop 1 := by
  cases l with
  | nil => rfl
  | cons k l => rw [pre_txt]; rfl
end Go.Proofs.YtbkhnilbgocpnaaGreatDoor.SynC
namespace Go.Proofs.YtbkhnilbgocpnaaGreatDoor.SynC
structure Fn where
  name : List UInt8
  params : List (List UInt8)
  body : List St
structure Kr where
  name : List UInt8
  params : List (List UInt8 × Bool)
  shared : List (List UInt8 × Int)
  body : List St
structure Pg where
  fns : List Fn
  krs : List Kr
def Fn.it (f : Fn) : It := .fn f.name f.params f.body
def Kr.it (k : Kr) : It := .ker k.name k.params k.shared k.body
def Pg.its (p : Pg) : List It := p.fns.map Fn.it ++ p.krs.map Kr.it
def It.fn? : It → Option Fn
  | .fn x ps b => some ⟨x, ps, b⟩
  | _ => none
def It.kr? : It → Option Kr
  | .ker x ps sh b => some ⟨x, ps, sh, b⟩
  | _ => none
def pg (l : List It) : Pg := ⟨l.filterMap It.fn?, l.filterMap It.kr?⟩
def OkP (nm : List UInt8 → Bool) (p : Pg) : Prop := ∀ i ∈ p.its, okI nm i = true
end Go.Proofs.YtbkhnilbgocpnaaGreatDoor.SynC
namespace Go.Proofs.YtbkhnilbgocpnaaGreatDoor.SynC
theorem bind_assoc {α β γ : Type} (x : Res α) (f : α → List K → Res β) (g : β → List K → Res γ) : (x.bind f).bind g = x.bind fun a r => (f a r).bind g := by
  cases x <;> rfl
theorem bind_id {α : Type} (x : Res α) : (x.bind fun a r => .ok a r) = x := by cases x <;> rfl
def TL : Nat → Nat → Ex → List K → Res Ex
  | _, 0, a, l => .ok a l
  | n, d + 1, a, l => (TL (n + 1) d a l).bind fun b r => PE (.tail n b) r
theorem ex_TL : ∀ d n, n + d = 11 → ∀ l, PE (.ex n) l = (PE .un l).bind (TL n d)
  | 0, n, h, l => by
    have : n = 11 := by omega
    subst this
    rw [ex11]
    exact (bind_id _).symm
  | d + 1, n, h, l => by
    rw [PE_eq, step, if_neg (by omega), ex_TL d (n + 1) (by omega) l, bind_assoc]
    rfl
theorem TL_stop {a : Ex} {l : List K} : ∀ d n, NoOp n (n + d) l → TL n d a l = .ok a l
  | 0, _, _ => rfl
  | d + 1, n, h => by
    rw [TL, TL_stop d (n + 1) (fun k h1 h2 => h k (by omega) (by omega))]
    exact tail_stop fun t r e => h n (Nat.le_refl _) (by omega) t r e
theorem tail_end : ∀ (m : Nat) (n : Nat) (a b : Ex) (l r : List K), l.length ≤ m → n ≤ 10 → NoOp (n + 1) 11 l → PE (.tail n a) l = .ok b r → NoOp n 11 r ∧ True
  | m, n, a, b, l, r, hm, hn, ho, h => by
    
    have ends : ∀ d k, k + d = 11 → ∀ l' b' r', l'.length < l.length → PE (.ex k) l' = .ok b' r' → NoOp k 11 r' := by
      intro d
      induction d with
      | zero => intro k hk l' b' r' _ _ j h1 h2; omega
      | succ d ih =>
        intro k hk l' b' r' hl h'
        rw [PE_eq, step, if_neg (by omega)] at h'
        obtain ⟨c, q, e1, e2⟩ := bind_ok h'
        have hq := PE_len _ _ _ _ e1
        simp only [dl] at hq
        cases m with
        | zero => omega
        | succ m => exact (tail_end m k c b' q r' (by omega) (by omega) (ih (k + 1) (by omega) l' c q hl e1) e2).1
    refine ⟨?_, trivial⟩
    cases l with
    | nil =>
      rw [PE_eq] at h
      simp only [step] at h
      cases h
      intro _ _ _ _ _ e; cases e
    | cons t q =>
      rw [PE_eq] at h
      simp only [step] at h
      split at h
      · obtain ⟨c, u, e1, e2⟩ := bind_ok h
        have hu := PE_len _ _ _ _ e1
        simp only [dl] at hu
        have hc := ends (10 - n) (n + 1) (by omega) q c u (by simp) e1
        cases m with
        | zero => simp at hm
        | succ m => exact (tail_end m n _ b u r (by simp only [List.length_cons] at hm; omega) hn hc e2).1
      · rename_i hno
        cases h
        intro k h1 h2 t' q' e
        by_cases hk : k = n
        · cases e; rw [hk]; exact hno
        · exact ho k (by omega) h2 t' q' e
  termination_by m => m
theorem ex_end : ∀ d n, n + d = 11 → ∀ {l r b}, PE (.ex n) l = .ok b r → NoOp n 11 r
  | 0, n, h, _, _, _, _ => fun k h1 h2 => by omega
  | d + 1, n, h, l, r, b, e => by
    rw [PE_eq, step, if_neg (by omega)] at e
    obtain ⟨c, q, e1, e2⟩ := bind_ok e
    exact (tail_end q.length n c b q r (Nat.le_refl _) (by omega) (ex_end d (n + 1) (by omega) e1) e2).1
theorem opOf_one {t : K} {m k : Nat} {o o' : Int} (h1 : 1 ≤ m) (h2 : m ≤ 10) (h3 : 1 ≤ k) (h4 : k ≤ 10) (h : opOf m t = some o) (h' : opOf k t = some o') : k = m := by
  unfold opOf at h h'
  split at h
  · rename_i ht
    rw [if_pos ht] at h'
    have key : ∀ s : List UInt8, ∀ m ∈ List.range' 1 10, ∀ x ∈ lev m, x.1 = s → ∀ k ∈ List.range' 1 10, ∀ y ∈ lev k, y.1 = s → k = m := by
      have : ∀ m ∈ List.range' 1 10, ∀ x ∈ lev m, ∀ k ∈ List.range' 1 10, ∀ y ∈ lev k, y.1 = x.1 → k = m := by decide
      intro s m hm x hx e k hk y hy e'
      exact this m hm x hx k hk y hy (e'.trans e.symm)
    have mem : ∀ (L : List (List UInt8 × Int)) o, L.lookup t.2.1 = some o → ∃ x ∈ L, x.1 = t.2.1 := by
      intro L
      induction L with
      | nil => intro o h; cases h
      | cons x L ih =>
        intro o h
        by_cases hx : t.2.1 = x.1
        · exact ⟨x, by simp, hx.symm⟩
        · rw [List.lookup_cons, beq_false_of_ne hx] at h
          obtain ⟨y, hy, e⟩ := ih o h
          exact ⟨y, by simp [hy], e⟩
    obtain ⟨x, hx, ex⟩ := mem _ _ h
    obtain ⟨y, hy, ey⟩ := mem _ _ h'
    exact key _ m (by simp only [List.mem_range'_1]; omega) x hx ex k (by simp only [List.mem_range'_1]; omega) y hy ey
  · cases h
theorem TL_op {m : Nat} {t : K} {op : Int} (h1 : 1 ≤ m) (hm : m ≤ 10) (ho : opOf m t = some op) (a : Ex) (r : List K) : ∀ d n, n + d = 11 → 1 ≤ n → n ≤ m →
    TL n d a (t :: r) = (PE (.ex (m + 1)) r).bind fun b q => TL n d (bin op t.2.1 a b) q
  | 0, n, h, hn, hle => by omega
  | d + 1, n, h, hn, hle => by
    by_cases e : n = m
    · subst e
      have hs : NoOp (n + 1) (n + 1 + d) (t :: r) := by
        intro k k1 k2 t' q' e
        cases e
        cases hk : opOf k t with
        | none => rfl
        | some o' => have := opOf_one h1 hm (by omega) (by omega) ho hk; omega
      rw [TL, TL_stop d (n + 1) hs]
      show PE (.tail n a) (t :: r) = _
      rw [PE_eq]
      simp only [step, ho]
      refine bind_congr fun b q e => ?_
      rw [TL, TL_stop d (n + 1) (fun k k1 k2 => ex_end d (n + 1) (by omega) e k k1 (by omega))]
      rfl
    · rw [TL, TL_op h1 hm ho a r d (n + 1) (by omega) (by omega) (by omega), bind_assoc]
      rfl
end Go.Proofs.YtbkhnilbgocpnaaGreatDoor.SynC
namespace Go.Proofs.YtbkhnilbgocpnaaGreatDoor.SynC
open Go.Proofs.YtbkhnilbgocpnaaGreatDoor.LexC
def SmK (k : K) : Prop := k.2.1.length ≤ 16
def SmKs (l : List K) : Prop := ∀ k ∈ l, SmK k
theorem smKs_nil : SmKs [] := fun _ h => by cases h
theorem smKs_cons {k : K} {l : List K} (h : SmK k) (hl : SmKs l) : SmKs (k :: l) := fun x hx => by
  rcases List.mem_cons.1 hx with rfl | hx
  · exact h
  · exact hl x hx
theorem smKs_append {l m : List K} (h : SmKs l) (hm : SmKs m) : SmKs (l ++ m) := fun x hx => by
  rcases List.mem_append.1 hx with hx | hx
  · exact h x hx
  · exact hm x hx
theorem smKs_flat {α : Type} {w : α → List K} {l : List α} (h : ∀ a ∈ l, SmKs (w a)) : SmKs (l.flatMap w) := fun x hx => by
  obtain ⟨a, ha, hx⟩ := List.mem_flatMap.1 hx
  exact h a ha x hx
theorem sm_sg {s : List UInt8} (h : s.length ≤ 16) : SmK (sg s) := h
theorem sm_name {x : List UInt8} (h : nmL x = true) : SmK (0, x, 0) := by
  cases x with
  | nil => cases h
  | cons c r =>
    simp only [nmL, Bool.and_eq_true, decide_eq_true_eq, Bool.not_eq_true'] at h
    exact h.1.2
theorem digL_len : ∀ (k n : Nat), n < 10 ^ (k + 1) → (digL n).length ≤ k + 1
  | 0, n, h => by rw [digL, dif_pos (by omega)]; simp
  | k + 1, n, h => by
    rw [digL]
    split
    · simp
    · have := digL_len k (n / 10) (by rw [Nat.pow_succ] at h; omega)
      simp; omega
theorem sm_int {i : Int} (h : 0 ≤ i ∧ i < 2147483648 ∨ i = -2147483648) : SmK (1, dgL i, i) := by
  have := digL_len 9 i.natAbs (by omega)
  show (digL i.natAbs).length ≤ 16
  omega
theorem ite_len {c : Prop} [Decidable c] {a b : List UInt8} (ha : a.length ≤ 16) (hb : b.length ≤ 16) : (if c then a else b).length ≤ 16 := by
  split
  · exact ha
  · exact hb
theorem sm_op (op : Int) : SmK (sg (opText op)) := by
  refine sm_sg ?_
  unfold opText
  repeat' (refine ite_len ?_ ?_)
  all_goals decide
theorem sm_sp (op : Int) : SmK (sg (spText op)) := by
  refine sm_sg ?_
  unfold spText
  repeat' split
  all_goals decide
theorem sm_un (op : Int) : SmK (sg (unText op)) := by
  refine sm_sg ?_
  unfold unText
  repeat' split
  all_goals decide
theorem sm_fold (op : Int) : SmK (sg (foldText op)) := by
  refine sm_sg ?_
  unfold foldText
  repeat' split
  all_goals decide
theorem sm_commas {l : List (List K)} (h : ∀ t ∈ l, SmKs t) : SmKs (commasT l) := by
  cases l with
  | nil => exact smKs_nil
  | cons t r =>
    exact smKs_append (h t (by simp)) (smKs_flat fun u hu => smKs_cons (sm_sg (by decide)) (h u (by simp [hu])))
theorem getD_sm {l : List (List K)} (h : ∀ t ∈ l, SmKs t) (i : Nat) : SmKs (l.getD i []) := by
  rw [List.getD_eq_getElem?_getD]
  cases e : l[i]? with
  | none => exact smKs_nil
  | some t => exact h t (List.mem_of_getElem? e)
theorem body_sm {kind op num : Int} {name : List UInt8} {n : Nat} (hs : shapeB nmL kind op num name n = true) {ks : List (List K)} (h : ∀ t ∈ ks, SmKs t) :
    SmKs (bodyT dgL kind op num name ks) := by
  unfold shapeB at hs
  unfold bodyT
  have h41 : SmKs [sg [41]] := smKs_cons (sm_sg (by decide)) smKs_nil
  have h93 : SmKs [sg [93]] := smKs_cons (sm_sg (by decide)) smKs_nil
  by_cases k0 : kind = 0
  · rw [if_pos k0] at hs ⊢
    simp at hs
    refine smKs_cons (sm_int ?_) smKs_nil
    rcases hs.1.2 with h | h
    · exact .inl h
    · exact .inr h
  rw [if_neg k0] at hs ⊢
  by_cases k1 : kind = 1
  · subst k1
    simp at hs
    exact smKs_cons (sm_name hs.1.1.2) smKs_nil
  rw [if_neg k1] at hs
  by_cases k2 : kind = 2
  · rw [if_pos k2]; exact smKs_cons (sm_sp op) smKs_nil
  rw [if_neg k2] at hs ⊢
  by_cases k3 : kind = 3
  · rw [if_pos k3]; exact smKs_cons (sm_un op) (getD_sm h 0)
  rw [if_neg k3] at hs ⊢
  by_cases k4 : kind = 4
  · rw [if_pos k4] at hs ⊢
    simp at hs
    have ho := sm_op op
    split
    · exact smKs_cons ho (smKs_cons (sm_sg (by decide)) (smKs_append (getD_sm h 0) (smKs_cons (sm_sg (by decide)) (smKs_append (getD_sm h 1) h41))))
    · exact smKs_cons (sm_sg (by decide)) (smKs_append (getD_sm h 0) (smKs_cons ho (smKs_append (getD_sm h 1) h41)))
  rw [if_neg k4] at hs ⊢
  by_cases k5 : kind = 5
  · rw [if_pos k5] at hs ⊢
    simp at hs
    exact smKs_cons (sm_name hs.1.1.2) (smKs_cons (sm_sg (by decide)) (smKs_append (getD_sm h 0) h93))
  rw [if_neg k5] at hs ⊢
  by_cases k6 : kind = 6
  · rw [if_pos k6] at hs ⊢
    simp at hs
    exact smKs_cons (sm_name hs.1.1.2) (smKs_cons (sm_sg (by decide)) (smKs_append (sm_commas h) h41))
  rw [if_neg k6] at hs
  cases hs
mutual
theorem sm_E : (e : Ex) → okE nmL e = true → SmKs (tE dgL e)
  | .mk kind op num name kids, h => by
    rw [okE, Bool.and_eq_true] at h
    rw [tE]
    exact body_sm h.1 (sm_Es kids h.2)
theorem sm_Es : (l : List Ex) → okEs nmL l = true → ∀ t ∈ tEs dgL l, SmKs t
  | [], _ => fun t h => by rw [tEs] at h; cases h
  | e :: r, h => by
    rw [okEs, Bool.and_eq_true] at h
    intro t ht
    rw [tEs] at ht
    rcases List.mem_cons.1 ht with ht | ht
    · exact ht ▸ sm_E e h.1
    · exact sm_Es r h.2 t ht
end
theorem sm_brace {b : List K} (h : SmKs b) : SmKs (braceT b) :=
  smKs_cons (sm_sg (by decide)) (smKs_append h (smKs_cons (sm_sg (by decide)) smKs_nil))
theorem st_sm {kind op : Int} {name : List UInt8} {n : Nat} {nb ne : Bool} (hs : shapeSB nmL kind op name n nb ne = true) {es : List (List K)} (h : ∀ t ∈ es, SmKs t) {b c : List K}
    (hb : SmKs b) (hc : SmKs c) (ne' : Bool) : SmKs (stT kind op name es b c ne') := by
  unfold shapeSB at hs
  unfold stT
  have h59 : SmKs [sg [59]] := smKs_cons (sm_sg (by decide)) smKs_nil
  have g0 := getD_sm h 0
  have g1 := getD_sm h 1
  by_cases k0 : kind = 0
  · rw [if_pos (.inl k0)] at hs; rw [if_pos k0]
    simp at hs
    exact smKs_cons (sm_sg (by decide)) (smKs_cons (sm_name hs.1.1.1.2) (smKs_cons (sm_sg (by decide)) (smKs_append g0 h59)))
  rw [if_neg k0]
  by_cases k1 : kind = 1
  · rw [if_pos (.inr k1)] at hs; rw [if_pos k1]
    simp at hs
    exact smKs_cons (sm_name hs.1.1.1.2) (smKs_cons (sm_sg (by decide)) (smKs_append g0 h59))
  rw [if_neg (by omega)] at hs; rw [if_neg k1]
  by_cases k2 : kind = 2
  · rw [if_pos k2] at hs ⊢
    simp at hs
    exact smKs_cons (sm_name hs.1.1.1.2) (smKs_cons (sm_sg (by decide)) (smKs_append g0 (smKs_cons (sm_sg (by decide)) (smKs_cons (sm_sg (by decide)) (smKs_append g1 h59)))))
  rw [if_neg k2] at hs ⊢
  by_cases k3 : kind = 3
  · rw [if_pos k3]
    refine smKs_cons (sm_sg (by decide)) (smKs_append g0 (smKs_append (sm_brace hb) ?_))
    split
    · exact smKs_nil
    · exact smKs_cons (sm_sg (by decide)) (sm_brace hc)
  rw [if_neg k3] at hs ⊢
  by_cases k4 : kind = 4
  · rw [if_pos k4]; exact smKs_cons (sm_sg (by decide)) (smKs_append g0 (sm_brace hb))
  rw [if_neg k4] at hs ⊢
  by_cases k5 : kind = 5
  · rw [if_pos k5]; exact smKs_cons (sm_sg (by decide)) h59
  rw [if_neg k5]
  by_cases k6 : kind = 6
  · rw [if_pos k6]; exact smKs_cons (sm_sg (by decide)) h59
  rw [if_neg k6]
  by_cases k7 : kind = 7
  · rw [if_pos k7]; exact smKs_cons (sm_sg (by decide)) (smKs_append g0 h59)
  rw [if_neg k7] at hs ⊢
  by_cases k9 : kind = 9
  · subst k9
    simp at hs
    exact smKs_cons (sm_sg (by decide)) (smKs_cons (sm_fold op) (smKs_cons (sm_name hs.1.1.1.2) (smKs_cons (sm_sg (by decide)) (smKs_append g0
      (smKs_cons (sm_sg (by decide)) (smKs_cons (sm_sg (by decide)) (smKs_append g1 h59)))))))
  rw [if_neg k9]
  by_cases k10 : kind = 10
  · subst k10
    simp at hs
    exact smKs_cons (sm_sg (by decide)) (smKs_cons (sm_name hs.1.1.1.2) (smKs_cons (sm_sg (by decide)) (smKs_cons (sm_fold op) (smKs_append g0 h59))))
  rw [if_neg k10]
  exact smKs_cons (sm_sg (by decide)) h59
mutual
theorem sm_S : (s : St) → okS nmL s = true → SmKs (tS dgL s)
  | .mk kind op name exprs body els, h => by
    rw [okS] at h
    simp only [Bool.and_eq_true] at h
    rw [tS]
    refine st_sm h.1.1.1 (fun t ht => ?_) (sm_Ss body h.1.2) (sm_Ss els h.2) _
    obtain ⟨e, he, rfl⟩ := List.mem_map.1 ht
    exact sm_E e (List.all_eq_true.1 h.1.1.2 e he)
theorem sm_Ss : (l : List St) → okSs nmL l = true → SmKs (tSs dgL l)
  | [], _ => by rw [tSs]; exact smKs_nil
  | s :: r, h => by
    rw [okSs, Bool.and_eq_true] at h
    rw [tSs]
    exact smKs_append (sm_S s h.1) (sm_Ss r h.2)
end
theorem sm_I (i : It) (h : okI nmL i = true) : SmKs (tI dgL i) := by
  cases i with
  | fn x ps b =>
    simp only [okI, Bool.and_eq_true] at h
    refine smKs_cons (sm_sg (by decide)) (smKs_cons (sm_name h.1.1.1) (smKs_cons (sm_sg (by decide)) (smKs_append (sm_commas fun t ht => ?_)
      (smKs_cons (sm_sg (by decide)) (sm_brace (sm_Ss b h.2))))))
    obtain ⟨y, hy, rfl⟩ := List.mem_map.1 ht
    exact smKs_cons (sm_name (List.all_eq_true.1 h.1.1.2 y hy)) smKs_nil
  | ker x ps sh b =>
    simp only [okI, Bool.and_eq_true] at h
    obtain ⟨⟨⟨⟨⟨h1, h2⟩, -⟩, h3⟩, -⟩, h4⟩ := h
    refine smKs_cons (sm_sg (by decide)) (smKs_cons (sm_name h1) (smKs_cons (sm_sg (by decide)) (smKs_append (sm_commas fun t ht => ?_)
      (smKs_cons (sm_sg (by decide)) (sm_brace (smKs_append (smKs_flat fun a ha => ?_) (sm_Ss b h4)))))))
    · obtain ⟨y, hy, rfl⟩ := List.mem_map.1 ht
      refine smKs_cons ?_ (smKs_cons (sm_name (List.all_eq_true.1 h2 y hy)) smKs_nil)
      split
      · exact sm_sg (by decide)
      · exact sm_sg (by decide)
    · have := List.all_eq_true.1 h3 a ha
      simp at this
      exact smKs_cons (sm_sg (by decide)) (smKs_cons (sm_name this.1) (smKs_cons (sm_sg (by decide)) (smKs_cons (sm_int (.inl ⟨by omega, by omega⟩))
        (smKs_cons (sm_sg (by decide)) (smKs_cons (sm_sg (by decide)) smKs_nil)))))
theorem pre_len : ∀ l : List K, SmKs l → (pre l).length ≤ 17 * l.length
  | [], _ => by simp [pre_nil]
  | k :: l, h => by
    have h1 : k.2.1.length ≤ 16 := h k (by simp)
    have h2 := pre_len l fun x hx => h x (by simp [hx])
    rw [pre_cons]
    simp; omega
theorem txt_len (l : List K) (h : SmKs l) : (txt l).length ≤ 17 * l.length := by
  rw [txt_drop, List.length_drop]
  have := pre_len l h
  omega
def sumL (l : List (List K)) : Nat := (l.map List.length).sum
theorem sumL_cons (a : List K) (l : List (List K)) : sumL (a :: l) = a.length + sumL l := by simp [sumL]
theorem getD_len (l : List (List K)) : (l.getD 0 []).length + (l.getD 1 []).length ≤ sumL l := by
  match l with
  | [] => simp [sumL]
  | [a] => simp [sumL]
  | a :: b :: r => simp [sumL]
theorem commas_tail (l : List (List K)) : (l.flatMap fun u => sg [44] :: u).length = sumL l + l.length := by
  induction l with
  | nil => simp [sumL]
  | cons a l ih => rw [List.flatMap_cons, List.length_append, ih, sumL_cons]; simp; omega
theorem commas_len (l : List (List K)) : (commasT l).length ≤ sumL l + l.length := by
  cases l with
  | nil => simp [commasT]
  | cons a l => rw [commasT, List.length_append, commas_tail, sumL_cons]; simp; omega
theorem brace_len (b : List K) : (braceT b).length = b.length + 2 := by simp [braceT]
theorem body_len {nm : List UInt8 → Bool} {dg : Int → List UInt8} {kind op num : Int} {name : List UInt8} {ks : List (List K)} (hs : shapeB nm kind op num name ks.length = true) : (bodyT dg kind op num name ks).length ≤ 9 + sumL ks := by
  have h01 := getD_len ks
  have hc := commas_len ks
  have h6 : kind = 6 → ks.length ≤ 6 := fun h => by subst h; simp [shapeB] at hs; exact hs.2
  unfold bodyT
  repeat' split
  all_goals simp only [List.length_cons, List.length_append, List.length_nil]
  all_goals first | omega | (have := h6 (by omega); omega) | skip
mutual
theorem tE_len (nm : List UInt8 → Bool) : (e : Ex) → okE nm e = true → ((tE dgL e).length : Int) ≤ 9 * partsE e
  | .mk kind op num name kids, h => by
    rw [okE, Bool.and_eq_true] at h
    rw [tE, partsE]
    have h1 := tEs_len nm kids h.2
    have hl : (tEs dgL kids).length = kids.length := by rw [tEs_map, List.length_map]
    have h2 := body_len (dg := dgL) (by rw [hl]; exact h.1)
    omega
theorem tEs_len (nm : List UInt8 → Bool) : (l : List Ex) → okEs nm l = true → (sumL (tEs dgL l) : Int) ≤ 9 * partsEs l
  | [], _ => by rw [tEs, partsEs]; simp [sumL]
  | e :: r, h => by
    rw [okEs, Bool.and_eq_true] at h
    rw [tEs, partsEs, sumL_cons]
    have h1 := tE_len nm e h.1
    have h2 := tEs_len nm r h.2
    omega
end
theorem st_len (kind op : Int) (name : List UInt8) (es : List (List K)) (b c : List K) (ne : Bool) : (stT kind op name es b c ne).length ≤ 9 + sumL es + b.length + c.length := by
  have h01 := getD_len es
  have hb := brace_len b
  have hc := brace_len c
  unfold stT
  repeat' split
  all_goals simp only [List.length_cons, List.length_append, List.length_nil]
  all_goals omega
mutual
theorem tS_len (nm : List UInt8 → Bool) : (s : St) → okS nm s = true → ((tS dgL s).length : Int) ≤ 9 * partsS s
  | .mk kind op name exprs body els, h => by
    rw [okS] at h
    simp only [Bool.and_eq_true] at h
    rw [tS, partsS]
    have h1 := tEs_len nm exprs (by rw [okEs_all]; exact h.1.1.2)
    rw [tEs_map] at h1
    have h2 := tSs_len nm body h.1.2
    have h3 := tSs_len nm els h.2
    have h4 := st_len kind op name (exprs.map (tE dgL)) (tSs dgL body) (tSs dgL els) els.isEmpty
    omega
theorem tSs_len (nm : List UInt8 → Bool) : (l : List St) → okSs nm l = true → ((tSs dgL l).length : Int) ≤ 9 * partsSs l
  | [], _ => by rw [tSs, partsSs]; simp
  | s :: r, h => by
    rw [okSs, Bool.and_eq_true] at h
    rw [tSs, partsSs, List.length_append]
    have h1 := tS_len nm s h.1
    have h2 := tSs_len nm r h.2
    omega
end
def bodyI : It → List St
  | .fn _ _ b => b
  | .ker _ _ _ b => b
theorem sum_const {α : Type} (f : α → List K) (n : Nat) (h : ∀ a, (f a).length = n) (l : List α) : sumL (l.map f) = n * l.length := by
  induction l with
  | nil => simp [sumL]
  | cons a l ih => rw [List.map_cons, sumL_cons, ih, h, List.length_cons, Nat.mul_succ]; omega
theorem flat_const {α : Type} (f : α → List K) (n : Nat) (h : ∀ a, (f a).length = n) (l : List α) : (l.flatMap f).length = n * l.length := by
  induction l with
  | nil => simp
  | cons a l ih => rw [List.flatMap_cons, List.length_append, ih, h, List.length_cons, Nat.mul_succ]; omega
theorem tI_len (nm : List UInt8 → Bool) (i : It) (h : okI nm i = true) : ((tI dgL i).length : Int) ≤ 60 + 9 * partsSs (bodyI i) := by
  cases i with
  | fn x ps b =>
    simp only [okI, Bool.and_eq_true, decide_eq_true_eq] at h
    have h1 := tSs_len nm b h.2
    have h2 := commas_len (ps.map fun y => [((0 : Int), y, (0 : Int))])
    rw [sum_const _ 1 (fun _ => rfl), List.length_map] at h2
    rw [tI]
    simp only [List.length_cons, List.length_append, brace_len]
    have := h.1.2
    show _ ≤ 60 + 9 * partsSs b
    omega
  | ker x ps sh b =>
    simp only [okI, Bool.and_eq_true, decide_eq_true_eq] at h
    obtain ⟨⟨⟨⟨-, h3⟩, -⟩, h4⟩, h5⟩ := h
    have h1 := tSs_len nm b h5
    have h2 := commas_len (ps.map paramT)
    rw [sum_const _ 2 (fun _ => rfl), List.length_map] at h2
    rw [tI]
    simp only [List.length_cons, List.length_append, brace_len]
    rw [flat_const _ 6 (fun _ => rfl)]
    show _ ≤ 60 + 9 * partsSs b
    omega
def partsIs : List It → Int
  | [] => 0
  | i :: r => partsSs (bodyI i) + partsIs r
theorem tIs_len (nm : List UInt8 → Bool) : ∀ l : List It, (∀ i ∈ l, okI nm i = true) → ((l.flatMap (tI dgL)).length : Int) ≤ 60 * l.length + 9 * partsIs l
  | [], _ => by simp [partsIs]
  | i :: r, h => by
    have h1 := tI_len nm i (h i (by simp))
    have h2 := tIs_len nm r fun j hj => h j (by simp [hj])
    rw [List.flatMap_cons, List.length_append, partsIs, List.length_cons]
    omega
end Go.Proofs.YtbkhnilbgocpnaaGreatDoor.SynC
namespace Go.Proofs.YtbkhnilbgocpnaaGreatDoor.SynC
def fitE (nm : List UInt8 → Bool) (p lv : Int) (e : Ex) : Bool := okE nm e && decide (p + partsE e ≤ 400) && decide (lv + depthE e ≤ 13)
def fitEs (nm : List UInt8 → Bool) (p lv : Int) (l : List Ex) : Bool := okEs nm l && decide (p + partsEs l ≤ 400) && decide (lv + depthEs l ≤ 13)
def fitS (nm : List UInt8 → Bool) (p lv : Int) (s : St) : Bool := okS nm s && decide (p + partsS s ≤ 400) && decide (lv + depthS s ≤ 13) && decide (exdS s ≤ 12)
def fitSs (nm : List UInt8 → Bool) (p lv : Int) (l : List St) : Bool := okSs nm l && decide (p + partsSs l ≤ 400) && decide (lv + depthSs l ≤ 13) && decide (exdSs l ≤ 12)
theorem bool_eq {a b : Bool} (h : a = true ↔ b = true) : a = b := by cases a <;> cases b <;> simp_all
theorem fitE_mk (nm : List UInt8 → Bool) (p lv : Int) (kind op num : Int) (name : List UInt8) (kids : List Ex) :
    fitE nm p lv (.mk kind op num name kids) = (decide (p + 1 ≤ 400) && decide (lv ≤ 12) && shapeB nm kind op num name kids.length && fitEs nm (p + 1) (lv + 1) kids) := by
  have h1 := partsEs_pos kids
  have h2 := depthEs_pos kids
  refine bool_eq ?_
  unfold fitE fitEs
  rw [okE, partsE, depthE]
  simp only [Bool.and_eq_true, decide_eq_true_eq]
  constructor
  · rintro ⟨⟨⟨a, b⟩, c⟩, d⟩; exact ⟨⟨⟨by omega, by omega⟩, a⟩, ⟨b, by omega⟩, by omega⟩
  · rintro ⟨⟨⟨_, _⟩, a⟩, ⟨b, c⟩, d⟩; exact ⟨⟨⟨a, b⟩, by omega⟩, by omega⟩
theorem fitEs_cons (nm : List UInt8 → Bool) (p lv : Int) (e : Ex) (r : List Ex) : fitEs nm p lv (e :: r) = (fitE nm p lv e && fitEs nm (p + partsE e) lv r) := by
  have h1 := partsEs_pos r
  refine bool_eq ?_
  unfold fitE fitEs
  rw [okEs, partsEs, depthEs]
  simp only [Bool.and_eq_true, decide_eq_true_eq]
  constructor
  · rintro ⟨⟨⟨a, b⟩, c⟩, d⟩; exact ⟨⟨⟨a, by omega⟩, by omega⟩, ⟨b, by omega⟩, by omega⟩
  · rintro ⟨⟨⟨a, _⟩, _⟩, ⟨b, c⟩, d⟩; exact ⟨⟨⟨a, b⟩, by omega⟩, by omega⟩
theorem fitEs_nil (nm : List UInt8 → Bool) (p lv : Int) (hp : p ≤ 400) (hl : lv ≤ 13) : fitEs nm p lv [] = true := by
  unfold fitEs; rw [okEs, partsEs, depthEs]; simp; omega
theorem fitE_le {nm : List UInt8 → Bool} {p lv : Int} {e : Ex} (h : fitE nm p lv e = true) : p + partsE e ≤ 400 := by
  unfold fitE at h; simp only [Bool.and_eq_true, decide_eq_true_eq] at h; exact h.1.2
theorem fitEs_le {nm : List UInt8 → Bool} {p lv : Int} {l : List Ex} (h : fitEs nm p lv l = true) : p + partsEs l ≤ 400 := by
  unfold fitEs at h; simp only [Bool.and_eq_true, decide_eq_true_eq] at h; exact h.1.2
theorem fitS_mk (nm : List UInt8 → Bool) (p lv : Int) (kind op : Int) (name : List UInt8) (exprs : List Ex) (body els : List St) :
    fitS nm p lv (.mk kind op name exprs body els) = (decide (p + 1 ≤ 400) && decide (lv ≤ 12) && shapeSB nm kind op name exprs.length body.isEmpty els.isEmpty && fitEs nm (p + 1) 1 exprs && fitSs nm (p + 1 + partsEs exprs) (lv + 1) body && fitSs nm (p + 1 + partsEs exprs + partsSs body) (lv + 1) els) := by
  have h1 := partsEs_pos exprs
  have h2 := depthEs_pos exprs
  have h3 := partsSs_pos body
  have h4 := partsSs_pos els
  have h5 := depthSs_pos body
  have h6 := depthSs_pos els
  refine bool_eq ?_
  unfold fitS fitEs fitSs
  rw [okS, partsS, depthS, exdS, ← okEs_all]
  simp only [Bool.and_eq_true, decide_eq_true_eq]
  constructor
  · rintro ⟨⟨⟨⟨⟨⟨a, b⟩, c⟩, d⟩, e⟩, f⟩, g⟩
    exact ⟨⟨⟨⟨⟨by omega, by omega⟩, a⟩, ⟨b, by omega⟩, by omega⟩, ⟨⟨c, by omega⟩, by omega⟩, by omega⟩, ⟨⟨d, by omega⟩, by omega⟩, by omega⟩
  · rintro ⟨⟨⟨⟨⟨_, _⟩, a⟩, ⟨b, _⟩, f⟩, ⟨⟨c, _⟩, _⟩, _⟩, ⟨⟨d, _⟩, _⟩, _⟩
    exact ⟨⟨⟨⟨⟨⟨a, b⟩, c⟩, d⟩, by omega⟩, by omega⟩, by omega⟩
theorem fitSs_cons (nm : List UInt8 → Bool) (p lv : Int) (s : St) (r : List St) : fitSs nm p lv (s :: r) = (fitS nm p lv s && fitSs nm (p + partsS s) lv r) := by
  have h1 := partsSs_pos r
  refine bool_eq ?_
  unfold fitS fitSs
  rw [okSs, partsSs, depthSs, exdSs]
  simp only [Bool.and_eq_true, decide_eq_true_eq]
  constructor
  · rintro ⟨⟨⟨⟨a, b⟩, c⟩, d⟩, e⟩; exact ⟨⟨⟨⟨a, by omega⟩, by omega⟩, by omega⟩, ⟨⟨b, by omega⟩, by omega⟩, by omega⟩
  · rintro ⟨⟨⟨⟨a, _⟩, _⟩, _⟩, ⟨⟨b, _⟩, _⟩, _⟩; exact ⟨⟨⟨⟨a, b⟩, by omega⟩, by omega⟩, by omega⟩
theorem fitSs_nil (nm : List UInt8 → Bool) (p lv : Int) (hp : p ≤ 400) (hl : lv ≤ 13) : fitSs nm p lv [] = true := by
  unfold fitSs; rw [okSs, partsSs, depthSs, exdSs]; simp; omega
theorem fitS_le {nm : List UInt8 → Bool} {p lv : Int} {s : St} (h : fitS nm p lv s = true) : p + partsS s ≤ 400 := by
  unfold fitS at h; simp only [Bool.and_eq_true, decide_eq_true_eq] at h; exact h.1.1.2
theorem fitSs_le {nm : List UInt8 → Bool} {p lv : Int} {l : List St} (h : fitSs nm p lv l = true) : p + partsSs l ≤ 400 := by
  unfold fitSs at h; simp only [Bool.and_eq_true, decide_eq_true_eq] at h; exact h.1.1.2
end Go.Proofs.YtbkhnilbgocpnaaGreatDoor.SynC
