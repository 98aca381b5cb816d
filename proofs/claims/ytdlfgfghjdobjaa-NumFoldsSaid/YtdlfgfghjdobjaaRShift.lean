import Derived.Test.YtdlfgfghjdobjaaRXor
/- The reference's shift. -/
namespace Go.Proofs.Ytdlfgfghjdobjaa.Num
open Go.ChangeShapes Go.WideShapes Go.ChangeAt Go.RowKit

theorem shl_bit (A B : BitVec 32) (D k : Nat) (hD : D = dist B) (hk : k < 32) : bitsOf (binF 8 A B) k = if D ≤ k then bitsOf A (k - D) else false := by
  subst hD
  show (A <<< dist B).getLsbD k = _
  rw [BitVec.getLsbD_shiftLeft]
  by_cases h : dist B ≤ k
  · rw [if_pos h]; simp [hk, Nat.not_lt.2 h]; rfl
  · rw [if_neg h]; simp [Nat.lt_of_not_le h]
theorem shr_bit (A B : BitVec 32) (D k : Nat) (hD : D = dist B) (hk : k < 32) : bitsOf (binF 9 A B) k = if k + D < 32 then bitsOf A (k + D) else bitsOf A 31 := by
  subst hD
  show (A.sshiftRight (dist B)).getLsbD k = _
  rw [BitVec.getLsbD_sshiftRight, show decide (32 ≤ k) = false from decide_eq_false (by omega), Bool.not_false, Bool.true_and]
  by_cases h : k + dist B < 32
  · rw [if_pos h, if_pos (by omega), Nat.add_comm]; rfl
  · rw [if_neg h, if_neg (by omega), BitVec.msb_eq_getLsbD_last]; rfl
theorem ushr_bit (A B : BitVec 32) (D k : Nat) (hD : D = dist B) : bitsOf (binF 10 A B) k = if k + D < 32 then bitsOf A (k + D) else false := by
  subst hD
  show (A >>> dist B).getLsbD k = _
  rw [BitVec.getLsbD_ushiftRight, Nat.add_comm]
  by_cases h : k + dist B < 32
  · rw [if_pos h]; rfl
  · rw [if_neg h]; exact BitVec.getLsbD_of_ge _ _ (by omega)

set_option maxRecDepth 100000 in
theorem rshift8 (A B : BitVec 32) (w : World) : Calls Try.prog 36 #[.int .i64 8, .int .i32 (sI A), .int .i32 (sI B)] w fun e w' => e = .returned (.int .i32 (sI (binF 8 A B))) ∧ Below w.heap.size w w' := by
  have hm := mod_sI B
  obtain ⟨D, hD⟩ : ∃ D, D = dist B := ⟨_, rfl⟩
  have hd : ((B.toNat : Nat) : Int) % 32 = (D : Int) := by rw [hD]; unfold dist; omega
  have hlt : D < 32 := by rw [hD]; exact dist_lt B
  have HD := Lib.hid hD
  clear hD
  go_enter Try.func36, Try.ntmps36
  go_wp2_with fail
  refine (rbits_ A _).mono ?_
  rintro e w1 ⟨rfl, h1⟩
  go_wp2_with (refine store_new rfl 57 (.tmp 8) (.tmp 16) rfl rfl w1.heap.size rfl (fill (bitsOf A) 32) rfl rfl 57 _ (by rw [info57, fill_size]) (by rw [fill_size]; rfl) (fill_one _ _) ?_)
  clear hm hd
  have HFA := Lib.hid (fun k (h : k < 32) => fill_old (bitsOf A) 32 k h (Nat.le_refl _))
  revert HFA
  generalize fill (bitsOf A) 32 = FA
  intro HFA
  go_loopw [10] (fun t wr => ∃ k : Nat, k ≤ 32 ∧ t = .int .i64 k ∧ wr = (w1.alloc (.cells FA 57)).alloc (.cells (fill (bitsOf (binF 8 A B)) k) 57)) (fun t _ => 32 - (intOf t).toNat)
  case atStart => exact ⟨0, by omega, rfl, by rw [fill_zero]; rfl⟩
  case round =>
    obtain ⟨k, hk, rfl, rfl⟩ := hrel
    by_cases hk32 : k < 32
    · have hn := fill_new (bitsOf (binF 8 A B)) k hk32
      have hz := fill_size (bitsOf (binF 8 A B)) k
      have hb := shl_bit A B D k HD.out hk32
      by_cases hc : D ≤ k
      · rw [if_pos hc] at hb
        have hx : FA[k - D]? = some (.bool (bitsOf A (k - D))) := HFA.out _ (by omega)
        have HS := Lib.hid (fill_set (bitsOf (binF 8 A B)) k (bitsOf A (k - D)) hb.symm)
        revert hx HS
        generalize bitsOf A (k - D) = ba
        intro hx HS
        clear hb
        go_wp2
        go_roundw
        case rel => exact ⟨k + 1, by omega, by go_num, by rw [HS.out]⟩
        case measure => simp [intOf]; omega
      · rw [if_neg hc] at hb
        have HS := Lib.hid (fill_skip _ _ hb)
        clear hb
        go_wp2
        go_roundw
        case rel => exact ⟨k + 1, by omega, by go_num, by rw [HS.out]⟩
        case measure => simp [intOf]; omega
    · obtain rfl : k = 32 := by omega
      clear hk32 hk
      go_wp2_with (first
        | (refine load_new rfl 57 _ rfl (w1.heap.size + 1) (by simp) (fill (bitsOf (binF 8 A B)) 32) rfl 57 _ Try.underlying57 rfl (by rw [info57, fill_size]) ?_)
        | (go_at_call 61; refine (rword_ (binF 8 A B) _).mono ?_; rintro e w3 ⟨rfl, h3⟩))
      go_ret
      exact ⟨rfl, seq h1 (((Below.refl _ _).alloc (Nat.le_refl _) _).alloc (by simp) _ |>.trans (h3.mono (by simp; omega)))⟩

set_option maxRecDepth 100000 in
theorem rshift9 (A B : BitVec 32) (w : World) : Calls Try.prog 36 #[.int .i64 9, .int .i32 (sI A), .int .i32 (sI B)] w fun e w' => e = .returned (.int .i32 (sI (binF 9 A B))) ∧ Below w.heap.size w w' := by
  have hm := mod_sI B
  obtain ⟨D, hD⟩ : ∃ D, D = dist B := ⟨_, rfl⟩
  have hd : ((B.toNat : Nat) : Int) % 32 = (D : Int) := by rw [hD]; unfold dist; omega
  have hlt : D < 32 := by rw [hD]; exact dist_lt B
  have HD := Lib.hid hD
  clear hD
  go_enter Try.func36, Try.ntmps36
  go_wp2_with fail
  refine (rbits_ A _).mono ?_
  rintro e w1 ⟨rfl, h1⟩
  go_wp2_with (refine store_new rfl 57 (.tmp 8) (.tmp 16) rfl rfl w1.heap.size rfl (fill (bitsOf A) 32) rfl rfl 57 _ (by rw [info57, fill_size]) (by rw [fill_size]; rfl) (fill_one _ _) ?_)
  clear hm hd
  have HFA := Lib.hid (fun k (h : k < 32) => fill_old (bitsOf A) 32 k h (Nat.le_refl _))
  revert HFA
  generalize fill (bitsOf A) 32 = FA
  intro HFA
  go_loopw [10] (fun t wr => ∃ k : Nat, k ≤ 32 ∧ t = .int .i64 k ∧ wr = (w1.alloc (.cells FA 57)).alloc (.cells (fill (bitsOf (binF 9 A B)) k) 57)) (fun t _ => 32 - (intOf t).toNat)
  case atStart => exact ⟨0, by omega, rfl, by rw [fill_zero]; rfl⟩
  case round =>
    obtain ⟨k, hk, rfl, rfl⟩ := hrel
    by_cases hk32 : k < 32
    · have hn := fill_new (bitsOf (binF 9 A B)) k hk32
      have hz := fill_size (bitsOf (binF 9 A B)) k
      have hb := shr_bit A B D k HD.out hk32
      by_cases hc : k + D < 32
      · rw [if_pos hc] at hb
        have hx : FA[k + D]? = some (.bool (bitsOf A (k + D))) := HFA.out _ (by omega)
        have HS := Lib.hid (fill_set (bitsOf (binF 9 A B)) k (bitsOf A (k + D)) hb.symm)
        revert hx HS
        generalize bitsOf A (k + D) = ba
        intro hx HS
        clear hb
        go_wp2
        go_roundw
        case rel => exact ⟨k + 1, by omega, by go_num, by rw [HS.out]⟩
        case measure => simp [intOf]; omega
      · rw [if_neg hc] at hb
        have hx : FA[31]? = some (.bool (bitsOf A (31))) := HFA.out _ (by omega)
        have HS := Lib.hid (fill_set (bitsOf (binF 9 A B)) k (bitsOf A (31)) hb.symm)
        revert hx HS
        generalize bitsOf A (31) = ba
        intro hx HS
        clear hb
        go_wp2
        go_roundw
        case rel => exact ⟨k + 1, by omega, by go_num, by rw [HS.out]⟩
        case measure => simp [intOf]; omega
    · obtain rfl : k = 32 := by omega
      clear hk32 hk
      go_wp2_with (first
        | (refine load_new rfl 57 _ rfl (w1.heap.size + 1) (by simp) (fill (bitsOf (binF 9 A B)) 32) rfl 57 _ Try.underlying57 rfl (by rw [info57, fill_size]) ?_)
        | (go_at_call 61; refine (rword_ (binF 9 A B) _).mono ?_; rintro e w3 ⟨rfl, h3⟩))
      go_ret
      exact ⟨rfl, seq h1 (((Below.refl _ _).alloc (Nat.le_refl _) _).alloc (by simp) _ |>.trans (h3.mono (by simp; omega)))⟩

set_option maxRecDepth 100000 in
theorem rshift10 (A B : BitVec 32) (w : World) : Calls Try.prog 36 #[.int .i64 10, .int .i32 (sI A), .int .i32 (sI B)] w fun e w' => e = .returned (.int .i32 (sI (binF 10 A B))) ∧ Below w.heap.size w w' := by
  have hm := mod_sI B
  obtain ⟨D, hD⟩ : ∃ D, D = dist B := ⟨_, rfl⟩
  have hd : ((B.toNat : Nat) : Int) % 32 = (D : Int) := by rw [hD]; unfold dist; omega
  have hlt : D < 32 := by rw [hD]; exact dist_lt B
  have HD := Lib.hid hD
  clear hD
  go_enter Try.func36, Try.ntmps36
  go_wp2_with fail
  refine (rbits_ A _).mono ?_
  rintro e w1 ⟨rfl, h1⟩
  go_wp2_with (refine store_new rfl 57 (.tmp 8) (.tmp 16) rfl rfl w1.heap.size rfl (fill (bitsOf A) 32) rfl rfl 57 _ (by rw [info57, fill_size]) (by rw [fill_size]; rfl) (fill_one _ _) ?_)
  clear hm hd
  have HFA := Lib.hid (fun k (h : k < 32) => fill_old (bitsOf A) 32 k h (Nat.le_refl _))
  revert HFA
  generalize fill (bitsOf A) 32 = FA
  intro HFA
  go_loopw [10] (fun t wr => ∃ k : Nat, k ≤ 32 ∧ t = .int .i64 k ∧ wr = (w1.alloc (.cells FA 57)).alloc (.cells (fill (bitsOf (binF 10 A B)) k) 57)) (fun t _ => 32 - (intOf t).toNat)
  case atStart => exact ⟨0, by omega, rfl, by rw [fill_zero]; rfl⟩
  case round =>
    obtain ⟨k, hk, rfl, rfl⟩ := hrel
    by_cases hk32 : k < 32
    · have hn := fill_new (bitsOf (binF 10 A B)) k hk32
      have hz := fill_size (bitsOf (binF 10 A B)) k
      have hb := ushr_bit A B D k HD.out
      by_cases hc : k + D < 32
      · rw [if_pos hc] at hb
        have hx : FA[k + D]? = some (.bool (bitsOf A (k + D))) := HFA.out _ (by omega)
        have HS := Lib.hid (fill_set (bitsOf (binF 10 A B)) k (bitsOf A (k + D)) hb.symm)
        revert hx HS
        generalize bitsOf A (k + D) = ba
        intro hx HS
        clear hb
        go_wp2
        go_roundw
        case rel => exact ⟨k + 1, by omega, by go_num, by rw [HS.out]⟩
        case measure => simp [intOf]; omega
      · rw [if_neg hc] at hb
        have HS := Lib.hid (fill_skip _ _ hb)
        clear hb
        go_wp2
        go_roundw
        case rel => exact ⟨k + 1, by omega, by go_num, by rw [HS.out]⟩
        case measure => simp [intOf]; omega
    · obtain rfl : k = 32 := by omega
      clear hk32 hk
      go_wp2_with (first
        | (refine load_new rfl 57 _ rfl (w1.heap.size + 1) (by simp) (fill (bitsOf (binF 10 A B)) 32) rfl 57 _ Try.underlying57 rfl (by rw [info57, fill_size]) ?_)
        | (go_at_call 61; refine (rword_ (binF 10 A B) _).mono ?_; rintro e w3 ⟨rfl, h3⟩))
      go_ret
      exact ⟨rfl, seq h1 (((Below.refl _ _).alloc (Nat.le_refl _) _).alloc (by simp) _ |>.trans (h3.mono (by simp; omega)))⟩
end Go.Proofs.Ytdlfgfghjdobjaa.Num
