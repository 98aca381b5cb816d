import Derived.Test.YtlpmeodphjpmeaaDoorToks
import Derived.Deep.Slices
import Derived.OpenShut
/- A slice of tokens that came in, opened. -/
namespace Go.Proofs.YtlpmeodphjpmeaaDoor.Lex
open Go.ChangeShapes Go.WideShapes Go.ChangeAt Go.RowKit Go.Deep

section
variable {H : Type} {enc : TypeId × Value → H} {W : World} {base : Nat} {sp : Nat → Bool} {held : Bool}
theorem tok_of_trod {n : Nat} {cs : List Value} {x : DataW H × List MemPlace} (h : DataW.trod enc Tryd.prog W base sp held n 30 cs = some x) : ∃ t : Tok, cs = tokCells t := by
  obtain ⟨xs, m, _, _, hlen, hn, hf⟩ := DataW.trod_struct Tryd.underlying30 h
  have c30 : Tryd.prog.cellsOf 30 = 4 := by kernel_rfl
  have c3 : Tryd.prog.cellsOf 3 = 1 := by kernel_rfl
  have c9 : Tryd.prog.cellsOf 9 = 1 := by kernel_rfl
  have c21 : Tryd.prog.cellsOf 21 = 1 := by kernel_rfl
  rw [c30] at hlen
  match cs, hlen with
  | [a, b, c, d], _ =>
    have hn4 : xs.length = 4 := hn
    have h0 : DataW.trod enc Tryd.prog W base sp held m 3 (([a, b, c, d].drop 0).take (Tryd.prog.cellsOf 3)) = xs[0]? := hf 0 _ rfl
    have h1 : DataW.trod enc Tryd.prog W base sp held m 3 (([a, b, c, d].drop 1).take (Tryd.prog.cellsOf 3)) = xs[1]? := hf 1 _ rfl
    have h2 : DataW.trod enc Tryd.prog W base sp held m 9 (([a, b, c, d].drop 2).take (Tryd.prog.cellsOf 9)) = xs[2]? := hf 2 _ rfl
    have h3 : DataW.trod enc Tryd.prog W base sp held m 21 (([a, b, c, d].drop 3).take (Tryd.prog.cellsOf 21)) = xs[3]? := hf 3 _ rfl
    rw [c3, List.getElem?_eq_getElem (by omega)] at h0 h1
    rw [c9, List.getElem?_eq_getElem (by omega)] at h2
    rw [c21, List.getElem?_eq_getElem (by omega)] at h3
    obtain ⟨k, e0, _⟩ := DataW.trod_int Tryd.underlying3 h0
    obtain ⟨p, e1, _⟩ := DataW.trod_int Tryd.underlying3 h1
    obtain ⟨s, e2, _⟩ := DataW.trod_string Tryd.underlying9 h2
    obtain ⟨v, e3, _⟩ := DataW.trod_int Tryd.underlying21 h3
    simp at e0 e1 e2 e3
    subst e0; subst e1; subst e2; subst e3
    exact ⟨⟨k, p, s.data.toList, v⟩, by unfold tokCells; simp only [bs_self]⟩
theorem open_toks {fuel : Nat} {cs : List Value} {x : DataW H × List MemPlace} (h : DataW.trod enc Tryd.prog W base sp held fuel 23 cs = some x) : ∃ X L, cs = [X] ∧ Rt W X L ∧ L.length ≤ maxLen := by
  have c30 : Tryd.prog.cellsOf 30 = 4 := by kernel_rfl
  rcases open_slice Tryd.underlying23 h with ⟨hcs, _⟩ | ⟨a, len, cap, m, n, D, Pl, hcs, hb, hl, hm, hmm, hx, hi⟩
  · exact ⟨_, [], hcs, .inl ⟨rfl, rfl⟩, by simp⟩
  · have hT : ∀ i, i < len → ∃ t : Tok, ∀ j, j < 4 → W.cell? (a.add (i * 4 + j)) = (tokCells t)[j]? := by
      intro i hil
      obtain ⟨cs', hc, ht⟩ := hi i (by rw [hmm]; split <;> omega)
      rw [c30] at hc
      obtain ⟨t, rfl⟩ := tok_of_trod ht
      obtain ⟨_, _, hat⟩ := World.cells?_some hc
      exact ⟨t, fun j hj => by rw [← add_add]; exact hat j hj⟩
    obtain ⟨L, hL, hLt⟩ : ∃ L : List Tok, L.length = len ∧ ∀ i t, L[i]? = some t → ∀ j, j < 4 → W.cell? (a.add (i * 4 + j)) = (tokCells t)[j]? := by
      clear hx hi hmm hcs
      revert hT
      clear hl
      induction len with
      | zero => exact fun _ => ⟨[], rfl, fun i t h => by simp at h⟩
      | succ k ih =>
        intro hT
        obtain ⟨L, h1, h2⟩ := ih (fun i hi => hT i (by omega))
        obtain ⟨t, ht⟩ := hT k (by omega)
        refine ⟨L ++ [t], by simp [h1], fun i u hu => ?_⟩
        by_cases hik : i < L.length
        · rw [List.getElem?_append_left hik] at hu
          exact h2 i u hu
        · have hl := (List.getElem?_eq_some_iff.1 hu).1
          simp at hl
          have e : i = k := by omega
          subst e
          rw [List.getElem?_append_right (by omega), h1] at hu
          simp at hu
          subst hu
          exact ht
    refine ⟨_, L, hcs, .inr ⟨a, cap, by rw [hL], fun j u hu => ?_⟩, by omega⟩
    have hj := (List.getElem?_eq_some_iff.1 hu).1
    rw [cellsT_len] at hj
    have hq : j / 4 < L.length := by omega
    have e : j / 4 * 4 + j % 4 = j := by omega
    have h1 := cellsT_at (List.getElem?_eq_getElem hq) (j % 4) (Nat.mod_lt _ (by omega))
    rw [e, hu] at h1
    have h2 := hLt (j / 4) _ (List.getElem?_eq_getElem hq) (j % 4) (Nat.mod_lt _ (by omega))
    rw [e] at h2
    rw [h2, h1]
end
end Go.Proofs.YtlpmeodphjpmeaaDoor.Lex
