import Derived.Test.YtlpmeodphjpmeaaDoorRJoin
import Derived.Test.YtlpmeodphjpmeaaDoorAwake
/- The walk of the law of joins. -/
namespace Go.Proofs.YtlpmeodphjpmeaaDoor.Lex
open Go.ChangeShapes Go.WideShapes Go.ChangeAt Go.RowKit

def Small (L : List Tok) (k : Nat) : Prop := (∀ i t, i < k → L[i]? = some t → t.text.length ≤ 100) ∧ (0 < k → L.length ≤ 200)
theorem Small.bound {L : List Tok} (h : Small L L.length) : L.length ≤ 200 ∧ (joinL (texts L)).length ≤ 20200 := by
  have hl : L.length ≤ 200 := by
    by_cases h0 : 0 < L.length
    · exact h.2 h0
    · omega
  refine ⟨hl, ?_⟩
  have h1 := joinL_bound 100 (texts L) (fun x hx => by
    obtain ⟨t, ht, rfl⟩ := List.mem_map.1 hx
    obtain ⟨i, hi⟩ := List.getElem?_of_mem ht
    exact h.1 i t (List.getElem?_eq_some_iff.1 hi).1 hi)
  rw [texts_len] at h1
  have := Nat.mul_le_mul_right 101 hl
  omega

set_option maxHeartbeats 2000000 in
theorem joins_walk (X : Value) (L : List Tok) (hm : L.length ≤ maxLen) (w : World) (hX : Rt w X L) (hS : Sg w) : Calls Tryd.prog 5 #[X] w fun e w' => e = .returned (.bool true) ∧ Below w.heap.size w w' := by
  obtain ⟨n, hn⟩ : ∃ n, L.length = n := ⟨_, rfl⟩
  obtain ⟨A, c, rfl, hA⟩ := hX.open_
  rw [hn]
  rw [hn] at hm
  unfold maxLen at hm
  have HS := Lib.hid hS
  have HX := Lib.hid hX
  have HA := Lib.hid hA
  have HN := Lib.hid hn
  clear hS hX hn hA
  go_enter Tryd.func5, Tryd.ntmps5
  go_wp2
  go_loop [3] (fun i => ∃ k : Nat, k ≤ n ∧ i = .int .i64 k ∧ Small L k) (fun i => n - (intOf i).toNat)
  case atStart => exact ⟨0, Nat.zero_le _, rfl, fun i t hi => by omega, fun h => by omega⟩
  case round =>
    obtain ⟨k, hk, rfl, hsm⟩ := hrel
    have HM := Lib.hid hsm
    clear hsm
    by_cases hlt : k < n
    · by_cases h200 : 200 < n
      · go_wp2_with fail
        refine (awake_any _ HS.out).mono ?_
        rintro e w1 ⟨rfl, hb1⟩
        go_wp2
        go_ret
        exact ⟨rfl, hb1⟩
      · have hkL : k < L.length := by have := HN.out; omega
        obtain ⟨t, ht⟩ : ∃ t, L[k]? = some t := ⟨_, List.getElem?_eq_getElem hkL⟩
        obtain ⟨b, off, rfl, a0, a1, a2, a3⟩ := HA.out k t ht
        obtain ⟨m, hmt⟩ : ∃ m, t.text.length = m := ⟨_, rfl⟩
        have hsz : (bs t.text).size = m := (bs_size _).trans hmt
        have HT := Lib.hid ht
        have HMT := Lib.hid hmt
        clear ht hmt
        by_cases h100 : 100 < m
        · go_wp2_with fail
          refine (awake_any _ HS.out).mono ?_
          rintro e w1 ⟨rfl, hb1⟩
          go_wp2
          go_ret
          exact ⟨rfl, hb1⟩
        · go_wp2
          go_round
          case rel => exact ⟨k + 1, by omega, by go_num, fun i u hi hu => by
            by_cases e : i = k
            · subst e
              rw [HT.out] at hu
              cases hu
              have := HMT.out; omega
            · exact HM.out.1 i u (by omega) hu, fun _ => by have := HN.out; omega⟩
          case measure => simp [intOf]; omega
    · have hsm : Hid (L.length ≤ 200 ∧ (joinL (texts L)).length ≤ 20200) := Lib.hid (Small.bound (by have := HN.out; rw [this]; rwa [show n = k by omega]))
      have c1 := Lib.hid (lexJoin_any (.slice A L.length c) L (by have := hsm.out.1; omega) (by have := hsm.out.2; omega) w HX.out)
      rw [HN.out] at c1
      go_wp2_with fail
      refine (c1.out).mono ?_
      rintro e w1 ⟨rfl, hb1⟩
      have c2 := Lib.hid (refJoin_any (.slice A L.length c) L (by have := hsm.out.1; omega) (by have := hsm.out.2; omega) w1 (HX.out.below hb1))
      rw [HN.out] at c2
      go_wp2_with fail
      refine (c2.out).mono ?_
      rintro e w2 ⟨rfl, rfl⟩
      go_wp2_with fail
      refine (awake_any _ (HS.out.below hb1)).mono ?_
      rintro e w3 ⟨rfl, hb3⟩
      go_wp2
      go_ret
      exact ⟨rfl, seq hb1 hb3⟩
end Go.Proofs.YtlpmeodphjpmeaaDoor.Lex
