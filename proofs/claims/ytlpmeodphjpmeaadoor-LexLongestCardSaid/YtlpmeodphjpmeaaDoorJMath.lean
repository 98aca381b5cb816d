import Derived.Test.YtlpmeodphjpmeaaDoorMath
/- Texts joined by blanks. -/
namespace Go.Proofs.YtlpmeodphjpmeaaDoor.Lex

def joinL : List (List UInt8) → List UInt8
  | [] => []
  | [t] => t
  | t :: u :: r => t ++ 32 :: joinL (u :: r)
theorem joinL_snoc (T : List (List UInt8)) (t : List UInt8) (h : T ≠ []) : joinL (T ++ [t]) = joinL T ++ 32 :: t := by
  induction T with
  | nil => exact absurd rfl h
  | cons a r ih =>
    cases r with
    | nil => rfl
    | cons b q =>
      have := ih (by simp)
      simp only [List.cons_append] at this ⊢
      unfold joinL
      rw [this]
      simp [List.append_assoc]
theorem joinL_cons (t : List UInt8) (r : List (List UInt8)) (h : r ≠ []) : joinL (t :: r) = t ++ 32 :: joinL r := by
  cases r with
  | nil => exact absurd rfl h
  | cons b q => rfl
theorem take_succ_of {T : List (List UInt8)} {k : Nat} {t : List UInt8} (h : T[k]? = some t) : T.take (k + 1) = T.take k ++ [t] := by
  rw [List.take_add_one, h]; rfl
theorem joinL_zero {T : List (List UInt8)} {t : List UInt8} (h : T[0]? = some t) : joinL (T.take (0 + 1)) = t := by
  rw [take_succ_of h]; rfl
theorem joinL_step {T : List (List UInt8)} {k : Nat} {t : List UInt8} (h : T[k]? = some t) (hk : 0 < k) : joinL (T.take (k + 1)) = joinL (T.take k) ++ 32 :: t := by
  rw [take_succ_of h]
  refine joinL_snoc _ _ ?_
  have := (List.getElem?_eq_some_iff.1 h).1
  intro e
  have e2 := congrArg List.length e
  rw [List.length_take, List.length_nil] at e2
  omega
theorem joinL_len_snoc (T : List (List UInt8)) (t : List UInt8) : (joinL T).length ≤ (joinL (T ++ [t])).length := by
  by_cases h : T = []
  · subst h; simp [joinL]
  · rw [joinL_snoc T t h]; simp
theorem joinL_take_le (T : List (List UInt8)) : ∀ k, (joinL (T.take k)).length ≤ (joinL T).length := by
  have h : ∀ n (U : List (List UInt8)), U.length = n → ∀ k, (joinL (U.take k)).length ≤ (joinL U).length := by
    intro n
    induction n with
    | zero => intro U hU k; have : U = [] := List.eq_nil_of_length_eq_zero hU; subst this; simp
    | succ n ih =>
      intro U hU k
      by_cases hk : U.length ≤ k
      · rw [List.take_of_length_le hk]; exact Nat.le_refl _
      · have hne : U ≠ [] := by intro e; subst e; simp at hU
        have e : U = U.dropLast ++ [U.getLast hne] := (List.dropLast_concat_getLast hne).symm
        have hl : U.dropLast.length = n := by simp; omega
        have h1 := ih U.dropLast hl k
        have h2 := joinL_len_snoc U.dropLast (U.getLast hne)
        rw [← e] at h2
        have h3 : U.take k = U.dropLast.take k := by
          have : (U.dropLast ++ [U.getLast hne]).take k = U.dropLast.take k := List.take_append_of_le_length (by omega)
          rw [← e] at this
          exact this
        rw [h3]
        exact Nat.le_trans h1 h2
  exact h T.length T rfl
theorem joinL_bound (m : Nat) : ∀ T : List (List UInt8), (∀ t ∈ T, t.length ≤ m) → (joinL T).length ≤ T.length * (m + 1)
  | [], _ => by simp [joinL]
  | [t], h => by
    have := h t (by simp)
    simp [joinL]; omega
  | t :: u :: r, h => by
    have h1 := h t (by simp)
    have h2 := joinL_bound m (u :: r) (fun x hx => h x (by simp [hx]))
    rw [joinL_cons _ _ (by simp), List.length_append, List.length_cons]
    rw [List.length_cons, Nat.succ_mul]
    omega
theorem bs_append (l m : List UInt8) : bs l ++ bs m = bs (l ++ m) := by
  apply ByteArray.ext
  simp [bs, ByteArray.data_append]
end Go.Proofs.YtlpmeodphjpmeaaDoor.Lex
