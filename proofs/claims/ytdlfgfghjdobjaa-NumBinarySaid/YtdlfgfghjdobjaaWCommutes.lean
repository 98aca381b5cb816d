import Derived.Test.YtdlfgfghjdobjaaAwake
import Derived.Test.YtdlfgfghjdobjaaAlg
/- The walk of the law of which operators commute. -/
namespace Go.Proofs.Ytdlfgfghjdobjaa.Num
open Go.ChangeShapes Go.WideShapes Go.ChangeAt Go.RowKit

theorem isBinary_in (o : Int) (h0 : 0 ≤ o) (h1 : o < 20) (w : World) : Calls Try.prog 31 #[.int .i64 o] w fun e w' => e = .returned (.bool true) ∧ w = w' := by
  go_enter Try.func31, Try.ntmps31
  go_wp2
  go_ret
  exact ⟨rfl, rfl⟩
theorem isBinary_out (o : Int) (h : o < 0 ∨ 20 ≤ o) (w : World) : Calls Try.prog 31 #[.int .i64 o] w fun e w' => e = .returned (.bool false) ∧ w = w' := by
  rcases h with h | h
  · have h' : ¬ 0 ≤ o := by omega
    go_enter Try.func31, Try.ntmps31
    go_wp2
    go_ret
    exact ⟨rfl, rfl⟩
  · have h' : 0 ≤ o := by omega
    have h2 : ¬ o < 20 := by omega
    go_enter Try.func31, Try.ntmps31
    go_wp2
    go_ret
    exact ⟨rfl, rfl⟩

theorem comm_of (i : Nat) (hi : i < 20) (hc : com i = true) (A B : BitVec 32) : binF i A B = binF i B A := by
  have h : i = 0 ∨ i = 2 ∨ i = 5 ∨ i = 6 ∨ i = 7 ∨ i = 13 ∨ i = 14 ∨ i = 16 ∨ i = 17 ∨ i = 18 ∨ i = 19 := by
    revert hc
    revert i
    decide
  rcases h with rfl | rfl | rfl | rfl | rfl | rfl | rfl | rfl | rfl | rfl | rfl
  · exact BitVec.add_comm A B
  · exact BitVec.mul_comm A B
  · exact BitVec.and_comm A B
  · exact BitVec.or_comm A B
  · exact BitVec.xor_comm A B
  · simp only [binF]; congr 1; exact Bool.eq_iff_iff.2 (by rw [beq_iff_eq, beq_iff_eq]; exact ⟨Eq.symm, Eq.symm⟩)
  · simp only [binF]; congr 1; exact Bool.eq_iff_iff.2 (by rw [bne_iff_ne, bne_iff_ne]; exact ⟨Ne.symm, Ne.symm⟩)
  · simp only [binF]; rw [Bool.and_comm]
  · simp only [binF]; rw [Bool.or_comm]
  · simp only [binF]
    by_cases h1 : sI B < sI A
    · rw [if_pos h1, if_neg (by omega)]
    · rw [if_neg h1]
      by_cases h2 : sI A < sI B
      · rw [if_pos h2]
      · rw [if_neg h2]; exact sI_inj (by omega)
  · simp only [binF]
    by_cases h1 : sI A < sI B
    · rw [if_pos h1, if_neg (by omega)]
    · rw [if_neg h1]
      by_cases h2 : sI B < sI A
      · rw [if_pos h2]
      · rw [if_neg h2]; exact sI_inj (by omega)
theorem comm_not (i : Nat) (hi : i < 20) (hc : com i = false) : (sI (binF i 1#32 2#32) != sI (binF i 2#32 1#32)) = true ∨ ((sI (binF i 1#32 2#32) != sI (binF i 2#32 1#32)) = false ∧ (sI (binF i 3#32 5#32) != sI (binF i 5#32 3#32)) = true) := by
  revert hc
  revert i
  decide

theorem commutes_yes (i : Nat) (hi : i < 20) (hc : com i = true) (A B : BitVec 32) (w : World) : Calls Try.prog 11 #[.int .i64 (i : Int), .int .i32 (sI A), .int .i32 (sI B)] w fun e w' => e = .returned (.bool true) ∧ Below w.heap.size w w' := by
  have t1 := beq_of (comm_of i hi hc A B)
  have C := commutes_in i hi (i : Int) rfl
  rw [hc] at C
  have HC := Lib.hid C
  clear C hc
  go_enter Try.func11, Try.ntmps11
  go_wp2_with fail
  refine (HC.out _).mono ?_
  rintro e w1 ⟨rfl, h1⟩
  go_wp2_with fail
  refine (isBinary_in i (by omega) (by omega) _).mono ?_
  rintro e w2 ⟨rfl, rfl⟩
  go_wp2_with fail
  refine (do_at i hi A B i rfl _ _ rfl rfl _).mono ?_
  rintro e w3 ⟨rfl, h3⟩
  go_wp2_with fail
  refine (do_at i hi B A i rfl _ _ rfl rfl _).mono ?_
  rintro e w4 ⟨rfl, h4⟩
  go_wp2_with fail
  refine (awake_ _).mono ?_
  rintro e w5 ⟨rfl, h5⟩
  go_wp2
  go_ret
  exact ⟨rfl, seq (seq (seq h1 h3) h4) h5⟩

theorem commutes_no (i : Nat) (hi : i < 20) (hc : com i = false) (x y : Int) (w : World) : Calls Try.prog 11 #[.int .i64 (i : Int), .int .i32 x, .int .i32 y] w fun e w' => e = .returned (.bool true) ∧ Below w.heap.size w w' := by
  have t := comm_not i hi hc
  have C := commutes_in i hi (i : Int) rfl
  rw [hc] at C
  have HC := Lib.hid C
  clear C hc
  rcases t with t1 | ⟨t1, t2⟩
  · go_enter Try.func11, Try.ntmps11
    go_wp2_with fail
    refine (HC.out _).mono ?_
    rintro e w1 ⟨rfl, h1⟩
    go_wp2_with fail
    refine (isBinary_in i (by omega) (by omega) _).mono ?_
    rintro e w2 ⟨rfl, rfl⟩
    go_wp2_with fail
    refine (do_at i hi 1#32 2#32 i rfl _ _ (by decide) (by decide) _).mono ?_
    rintro e w3 ⟨rfl, h3⟩
    go_wp2_with fail
    refine (do_at i hi 2#32 1#32 i rfl _ _ (by decide) (by decide) _).mono ?_
    rintro e w4 ⟨rfl, h4⟩
    go_wp2_with fail
    refine (awake_ _).mono ?_
    rintro e w5 ⟨rfl, h5⟩
    go_wp2
    go_ret
    exact ⟨rfl, seq (seq (seq h1 h3) h4) h5⟩
  · go_enter Try.func11, Try.ntmps11
    go_wp2_with fail
    refine (HC.out _).mono ?_
    rintro e w1 ⟨rfl, h1⟩
    go_wp2_with fail
    refine (isBinary_in i (by omega) (by omega) _).mono ?_
    rintro e w2 ⟨rfl, rfl⟩
    go_wp2_with fail
    refine (do_at i hi 1#32 2#32 i rfl _ _ (by decide) (by decide) _).mono ?_
    rintro e w3 ⟨rfl, h3⟩
    go_wp2_with fail
    refine (do_at i hi 2#32 1#32 i rfl _ _ (by decide) (by decide) _).mono ?_
    rintro e w4 ⟨rfl, h4⟩
    go_wp2_with fail
    refine (do_at i hi 3#32 5#32 i rfl _ _ (by decide) (by decide) _).mono ?_
    rintro e w5 ⟨rfl, h5⟩
    go_wp2_with fail
    refine (do_at i hi 5#32 3#32 i rfl _ _ (by decide) (by decide) _).mono ?_
    rintro e w6 ⟨rfl, h6⟩
    go_wp2_with fail
    refine (awake_ _).mono ?_
    rintro e w7 ⟨rfl, h7⟩
    go_wp2
    go_ret
    exact ⟨rfl, seq (seq (seq (seq (seq h1 h3) h4) h5) h6) h7⟩

theorem commutes_other (o : Int) (h : o < 0 ∨ 20 ≤ o) (x y : Int) (w : World) : Calls Try.prog 11 #[.int .i64 o, .int .i32 x, .int .i32 y] w fun e w' => e = .returned (.bool true) ∧ Below w.heap.size w w' := by
  go_enter Try.func11, Try.ntmps11
  go_wp2_with fail
  refine (commutes_out o h _).mono ?_
  rintro e w1 ⟨rfl, h1⟩
  go_wp2_with fail
  refine (isBinary_out o h _).mono ?_
  rintro e w2 ⟨rfl, rfl⟩
  go_wp2_with fail
  refine (awake_ _).mono ?_
  rintro e w5 ⟨rfl, h5⟩
  go_wp2
  go_ret
  exact ⟨rfl, seq h1 h5⟩

theorem commutes_walk (o : Int) (A B : BitVec 32) (w : World) : Calls Try.prog 11 #[.int .i64 o, .int .i32 (sI A), .int .i32 (sI B)] w fun e w' => e = .returned (.bool true) ∧ Below w.heap.size w w' := by
  by_cases h : o < 0 ∨ 20 ≤ o
  · exact commutes_other o h _ _ w
  · obtain ⟨i, rfl⟩ : ∃ i : Nat, o = (i : Int) := ⟨o.toNat, by omega⟩
    cases hc : com i
    · exact commutes_no i (by omega) hc _ _ w
    · exact commutes_yes i (by omega) hc A B w
end Go.Proofs.Ytdlfgfghjdobjaa.Num
