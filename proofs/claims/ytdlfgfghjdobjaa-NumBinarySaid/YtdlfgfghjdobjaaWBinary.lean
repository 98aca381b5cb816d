import Derived.Test.YtdlfgfghjdobjaaRBin
import Derived.Test.YtdlfgfghjdobjaaFoldAlg
/- The reference's Binary beyond its operators, its Fold; the walks of the laws of binary operators and of folds. -/
namespace Go.Proofs.Ytdlfgfghjdobjaa.Num
open Go.ChangeShapes Go.WideShapes Go.ChangeAt Go.RowKit

set_option maxRecDepth 100000 in
theorem rbin_out (o : Int) (h : o < 0 ∨ 20 ≤ o) (A B : BitVec 32) (w : World) : Calls Try.prog 13 #[.int .i64 o, .int .i32 (sI A), .int .i32 (sI B)] w fun e w' => e = .returned (.tuple #[.int .i32 0, .bool false]) ∧ Below w.heap.size w w' := by
  have h0 : (o == 0) = false := by rw [beq_eq_false_iff_ne]; omega
  have h1 : (o == 1) = false := by rw [beq_eq_false_iff_ne]; omega
  have h2 : (o == 2) = false := by rw [beq_eq_false_iff_ne]; omega
  have h3 : (o == 3) = false := by rw [beq_eq_false_iff_ne]; omega
  have h4 : (o == 4) = false := by rw [beq_eq_false_iff_ne]; omega
  have h5 : (o == 5) = false := by rw [beq_eq_false_iff_ne]; omega
  have h6 : (o == 6) = false := by rw [beq_eq_false_iff_ne]; omega
  have h7 : (o == 7) = false := by rw [beq_eq_false_iff_ne]; omega
  have h8 : (o == 8) = false := by rw [beq_eq_false_iff_ne]; omega
  have h9 : (o == 9) = false := by rw [beq_eq_false_iff_ne]; omega
  have h10 : (o == 10) = false := by rw [beq_eq_false_iff_ne]; omega
  have h11 : (o == 11) = false := by rw [beq_eq_false_iff_ne]; omega
  have h12 : (o == 12) = false := by rw [beq_eq_false_iff_ne]; omega
  have h13 : (o == 13) = false := by rw [beq_eq_false_iff_ne]; omega
  have h14 : (o == 14) = false := by rw [beq_eq_false_iff_ne]; omega
  have h15 : (o == 15) = false := by rw [beq_eq_false_iff_ne]; omega
  have h16 : (o == 16) = false := by rw [beq_eq_false_iff_ne]; omega
  have h17 : (o == 17) = false := by rw [beq_eq_false_iff_ne]; omega
  have h18 : (o == 18) = false := by rw [beq_eq_false_iff_ne]; omega
  have h19 : (o == 19) = false := by rw [beq_eq_false_iff_ne]; omega
  clear h
  go_enter Try.func13, Try.ntmps13
  go_wp2_with (go_at_call 33; refine (divide_ A B _).mono ?_; rintro e w1 ⟨rfl, rfl⟩)
  go_ret2
  exact ⟨rfl, Below.refl _ _⟩

theorem binary_law_in (i : Nat) (hi : i < 20) (A B : BitVec 32) (w : World) : Calls Try.prog 3 #[.int .i64 (i : Int), .int .i32 (sI A), .int .i32 (sI B)] w fun e w' => e = .returned (.bool true) ∧ Below w.heap.size w w' := by
  have t1 := beq_of (rfl : binF i A B = binF i A B)
  go_enter Try.func3, Try.ntmps3
  go_wp2_with fail
  refine (bin_in i hi A B _).mono ?_
  rintro e w1 ⟨rfl, h1⟩
  go_wp2_with fail
  refine (rbin_in i hi A B _).mono ?_
  rintro e w2 ⟨rfl, h2⟩
  go_wp2_with fail
  refine (commutes_in i hi i rfl _).mono ?_
  rintro e w3 ⟨rfl, h3⟩
  go_wp2_with fail
  refine (rcom_in i hi _).mono ?_
  rintro e w4 ⟨rfl, rfl⟩
  go_wp2_with fail
  refine (text_in i hi i rfl _).mono ?_
  rintro e w5 ⟨rfl, h5⟩
  go_wp2_with fail
  refine (rtext_in i hi _).mono ?_
  rintro e w6 ⟨rfl, h6⟩
  go_wp2_with fail
  refine (awake_ _).mono ?_
  rintro e w7 ⟨rfl, h7⟩
  go_wp2
  go_ret
  exact ⟨rfl, seq (seq (seq (seq (seq h1 h2) h3) h5) h6) h7⟩
theorem binary_law_out (o : Int) (h : o < 0 ∨ 20 ≤ o) (A B : BitVec 32) (w : World) : Calls Try.prog 3 #[.int .i64 o, .int .i32 (sI A), .int .i32 (sI B)] w fun e w' => e = .returned (.bool true) ∧ Below w.heap.size w w' := by
  go_enter Try.func3, Try.ntmps3
  go_wp2_with fail
  refine (bin_out o h _ _ _).mono ?_
  rintro e w1 ⟨rfl, h1⟩
  go_wp2_with fail
  refine (rbin_out o h A B _).mono ?_
  rintro e w2 ⟨rfl, h2⟩
  go_wp2_with fail
  refine (commutes_out o h _).mono ?_
  rintro e w3 ⟨rfl, h3⟩
  go_wp2_with fail
  refine (rcom_out o h _).mono ?_
  rintro e w4 ⟨rfl, rfl⟩
  go_wp2_with fail
  refine (text_out o h _).mono ?_
  rintro e w5 ⟨rfl, h5⟩
  go_wp2_with fail
  refine (rtext_out o h _).mono ?_
  rintro e w6 ⟨rfl, h6⟩
  go_wp2_with fail
  refine (awake_ _).mono ?_
  rintro e w7 ⟨rfl, h7⟩
  go_wp2
  go_ret
  exact ⟨rfl, seq (seq (seq (seq (seq h1 h2) h3) h5) h6) h7⟩
theorem binary_walk (o : Int) (A B : BitVec 32) (w : World) : Calls Try.prog 3 #[.int .i64 o, .int .i32 (sI A), .int .i32 (sI B)] w fun e w' => e = .returned (.bool true) ∧ Below w.heap.size w w' := by
  by_cases h : o < 0 ∨ 20 ≤ o
  · exact binary_law_out o h A B w
  · obtain ⟨i, rfl⟩ : ∃ i : Nat, o = (i : Int) := ⟨o.toNat, by omega⟩
    exact binary_law_in i (by omega) A B w
end Go.Proofs.Ytdlfgfghjdobjaa.Num
