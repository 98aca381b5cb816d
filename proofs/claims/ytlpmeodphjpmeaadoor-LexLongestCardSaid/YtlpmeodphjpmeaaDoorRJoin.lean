import Derived.Test.YtlpmeodphjpmeaaDoorJoin
/- The reference's Join. -/
namespace Go.Proofs.YtlpmeodphjpmeaaDoor.Lex
open Go.ChangeShapes Go.WideShapes Go.ChangeAt Go.RowKit

theorem run_add_bs (l m r : List UInt8) (h : l ++ m = r) (hr : r.length ≤ 10000000) (W : World) : (Op.stringOp .add (bs l) (bs m)).run Tryd.prog W = .ok (.string (bs r)) W := by
  subst h
  rw [run_string_add_sum W _ _ (by rw [bs_size, bs_size]; simp at hr; omega), bs_append]

set_option maxHeartbeats 4000000 in
theorem refJoin_any (X : Value) (L : List Tok) (hn4 : L.length ≤ 100000) (hJ : (joinL (texts L)).length ≤ 1000000) (w : World) (hX : Rt w X L) :
    Calls Tryd.prog 17 #[X] w fun e w' => e = .returned (.string (bs (joinL (texts L)))) ∧ w = w' := by
  obtain ⟨n, hn⟩ : ∃ n, L.length = n := ⟨_, rfl⟩
  obtain ⟨A, c, rfl, hA⟩ := hX.open_
  rw [hn]
  rw [hn] at hn4
  have HJ := Lib.hid hJ
  have HA := Lib.hid hA
  have HN := Lib.hid hn
  clear hJ hX hn hA
  have h32 : (⟨#[32]⟩ : ByteArray) = bs [32] := rfl
  go_enter Tryd.func17, Tryd.ntmps17
  go_wp2
  go_loop [3, 4] (fun v i => ∃ k : Nat, k ≤ n ∧ i = .int .i64 k ∧ v = .string (bs (joinL ((texts L).take k)))) (fun _ i => n - (intOf i).toNat)
  case atStart => exact ⟨0, Nat.zero_le _, rfl, rfl⟩
  case round =>
    obtain ⟨k, hk, rfl, rfl⟩ := hrel
    by_cases hlt : k < n
    · have hkL : k < L.length := by have := HN.out; omega
      obtain ⟨t, ht⟩ : ∃ t, L[k]? = some t := ⟨_, List.getElem?_eq_getElem hkL⟩
      obtain ⟨b, off, rfl, a0, a1, a2, a3⟩ := HA.out k t ht
      have hb1 := joinL_take_le (texts L) (k + 1)
      have hJ := HJ.out
      by_cases hk0 : k = 0
      · subst hk0
        have hj := joinL_zero (texts_at ht)
        rw [hj] at hb1
        have hadd := run_add_bs [] t.text t.text (by simp) (by omega)
        have HJ1 := Lib.hid hj
        simp only [Nat.zero_mul, Nat.add_zero] at a0 a1 a2 a3
        have HZ : Hid (joinL ((texts L).take 0) = []) := Lib.hid (by rw [List.take_zero]; rfl)
        rw [HZ.out]
        clear ht hj hb1 hJ h32
        go_wp2
        go_round
        case rel => exact ⟨1, by omega, by go_num, by rw [HJ1.out]⟩
        case measure => simp [intOf]; omega
      · have hj := joinL_step (texts_at ht) (by omega)
        obtain ⟨l0, hl0⟩ : ∃ l0, joinL ((texts L).take k) = l0 := ⟨_, rfl⟩
        rw [hj, hl0] at hb1
        rw [hl0] at hj ⊢
        have hb2 : l0.length + t.text.length + 1 ≤ 1000000 := by simp at hb1; omega
        have hadd1 := run_add_bs l0 [32] (l0 ++ [32]) rfl (by simp; omega)
        have hadd2 := run_add_bs (l0 ++ [32]) t.text (l0 ++ 32 :: t.text) (by simp) (by simp; omega)
        rw [← h32] at hadd1
        have HJ1 := Lib.hid hj
        have hk1 : 0 < k := by omega
        clear ht hj hb1 hb2 hJ hl0 h32
        go_wp2
        go_round
        case rel => exact ⟨k + 1, by omega, by go_num, by rw [HJ1.out]⟩
        case measure => simp [intOf]; omega
    · have HK : Hid (joinL ((texts L).take k) = joinL (texts L)) := Lib.hid (by rw [List.take_of_length_le (by rw [texts_len]; have := HN.out; omega)])
      go_wp2
      go_ret
      exact ⟨by rw [← HK.out]; rfl, rfl⟩
end Go.Proofs.YtlpmeodphjpmeaaDoor.Lex
