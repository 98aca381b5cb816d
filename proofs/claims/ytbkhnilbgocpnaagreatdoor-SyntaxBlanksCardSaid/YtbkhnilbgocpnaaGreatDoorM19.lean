import Derived.Test.YtbkhnilbgocpnaaGreatDoorM10
import Derived.Test.YtbkhnilbgocpnaaGreatDoorM0
set_option linter.unusedVariables false
set_option linter.unusedSimpArgs false
/- Where a parse goes wrong: at a token, or at the end; the text before it is a program, or needs more. -/
namespace Go.Proofs.YtbkhnilbgocpnaaGreatDoor.SynC
open Go.Proofs.YtbkhnilbgocpnaaGreatDoor.LexC
open Go Go.ChangeShapes Go.WideShapes Go.ChangeAt Go.RowKit Go.Deep

theorem progP_end : ∀ f l is r, progP f l = .ok is r → r = []
  | 0, l, is, r, e => by cases e
  | f + 1, l, is, r, e => by
    unfold progP at e
    split at e
    · cases e; rfl
    · obtain ⟨i, q, e1, e⟩ := bind_ok e
      obtain ⟨is', q2, e2, e⟩ := bind_ok e
      cases e
      exact progP_end f q is' _ e2
theorem PP_end {l : List K} {is : List It} {r : List K} (h : PP l = .ok is r) : r = [] := progP_end _ _ _ _ h
theorem whole_prog (l : List K) : (∃ is, PP l = .ok is [] ∧ whole (progR l) = .ok (pg is) []) ∨ (∃ r, PP l = .no r ∧ whole (progR l) = .no r) := by
  cases h : PP l with
  | ok is r =>
    have := PP_end h
    subst this
    exact .inl ⟨is, rfl, by unfold progR; rw [h]; rfl⟩
  | no r => exact .inr ⟨r, rfl, by unfold progR; rw [h]; rfl⟩
theorem posAt_end (L : List Tok) (n : Nat) : posAt L n [] = n := by
  unfold posAt
  rw [List.length_nil, Nat.sub_zero, List.getD_eq_getElem?_getD, List.getElem?_append_right (Nat.le_refl _), Nat.sub_self]; rfl
theorem parseM_short {α : Type} {zero : α} {one : List K → Res α} {s : List UInt8} {L : List Tok} (h4 : s.length ≤ 4000) (h : sc s 0 = (L, none)) : parseM zero one s = outM zero L s.length (one (L.map key)) := by
  unfold parseM; rw [if_neg (by omega), h]
theorem whr_math {s : List UInt8} {at_ : Int} {q : Pg} {L : List Tok} (h4 : s.length ≤ 4000) (hsc : sc s 0 = (L, none)) (h : (q, at_, 2) = parseM (⟨[], []⟩ : Pg) progR s) :
    ∃ n : Nat, at_ = n ∧ n ≤ s.length ∧ (n = s.length ∨ ∃ (k : Nat) (t : Tok), L[k]? = some t ∧ t.pos = n) ∧ ∀ p i e, (p, i, e) = parseM (⟨[], []⟩ : Pg) progR (s.take n) → e = 0 ∨ (e = 2 ∧ i = n) := by
  have h0 := h
  rw [parseM_short h4 hsc] at h
  unfold outM at h
  rcases whole_prog (L.map key) with ⟨is, h1, h2⟩ | ⟨r, h1, h2⟩
  · rw [h2] at h; simp at h
  · rw [h2] at h
    simp only [Prod.mk.injEq] at h
    have hr : r <:+ L.map key := (PP_sfx _).2 _ h1
    have hl := hr.length_le
    rw [List.length_map] at hl
    by_cases hn : r = []
    · subst hn
      rw [posAt_end] at h
      refine ⟨s.length, h.2.1, Nat.le_refl _, .inl rfl, fun p i e he => ?_⟩
      rw [List.take_length, ← h0, h.2.1] at he
      simp only [Prod.mk.injEq] at he
      exact .inr ⟨he.2.2, he.2.1⟩
    · have h0 : 0 < r.length := List.length_pos_iff.2 hn
      have hj : L.length - r.length < L.length := by omega
      obtain ⟨t, ht⟩ : ∃ t, L[L.length - r.length]? = some t := ⟨_, List.getElem?_eq_getElem hj⟩
      obtain ⟨n, hn1, hn2, hn3⟩ := sc_take hsc ht
      have hp : posAt L s.length r = t.pos := by
        unfold posAt
        rw [List.getD_eq_getElem?_getD, List.getElem?_append_left hj, ht]; rfl
      refine ⟨n, by rw [h.2.1, hp, hn2], hn1, .inr ⟨_, t, ht, hn2⟩, fun p i e he => ?_⟩
      rw [parseM_short (by rw [List.length_take]; omega) hn3] at he
      have hu : L.map key = (L.take (L.length - r.length)).map key ++ r := by
        obtain ⟨u, hu⟩ := hr
        have hul : u.length = L.length - r.length := by
          have := congrArg List.length hu
          rw [List.length_append, List.length_map] at this; omega
        rw [List.map_take, ← hul, ← hu, List.take_left' rfl]
      have hw := PP_where r _ _ (Nat.lt_succ_self _) (by rw [← hu]; exact h1)
      have hlen : (s.take n).length = n := by rw [List.length_take]; omega
      unfold outM at he
      rcases hw with ⟨l, hl⟩ | hl
      · rcases whole_prog ((L.take (L.length - r.length)).map key) with ⟨is, h3, h4⟩ | ⟨r', h3, h4⟩
        · rw [h4] at he
          simp only [Prod.mk.injEq] at he
          exact .inl he.2.2
        · rw [hl] at h3; cases h3
      · rcases whole_prog ((L.take (L.length - r.length)).map key) with ⟨is, h3, h4⟩ | ⟨r', h3, h4⟩
        · rw [hl] at h3; cases h3
        · rw [hl] at h3
          cases h3
          rw [h4] at he
          simp only [Prod.mk.injEq, posAt_end, hlen] at he
          exact .inr ⟨he.2.2, he.2.1⟩
end Go.Proofs.YtbkhnilbgocpnaaGreatDoor.SynC
