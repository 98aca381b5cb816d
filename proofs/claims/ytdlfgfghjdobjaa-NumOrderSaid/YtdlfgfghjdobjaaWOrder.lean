import Derived.Test.YtdlfgfghjdobjaaAwake
import Derived.Test.YtdlfgfghjdobjaaAlg
/- P1.4: the walk of the law of order. -/
namespace Go.Proofs.Ytdlfgfghjdobjaa.Num
open Go.ChangeShapes Go.WideShapes Go.ChangeAt Go.RowKit

/-- A call of do whose result is told as a number. -/
theorem do_lit (i : Nat) (hi : i < 20) (o a b r : Int) (A B : BitVec 32) (ho : o = (i : Int)) (ha : a = sI A) (hb : b = sI B) (hr : sI (binF i A B) = r) (w : World) :
    Calls Try.prog 29 #[.int .i64 o, .int .i32 a, .int .i32 b] w fun e w' => e = .returned (.int .i32 r) ∧ Below w.heap.size w w' := by
  have h := do_at i hi A B o ho a b ha hb w
  rwa [hr] at h

set_option maxRecDepth 100000 in
theorem order_lt (A B : BitVec 32) (h : sI A < sI B) (w : World) : Calls Try.prog 9 #[.int .i32 (sI A), .int .i32 (sI B)] w fun e w' => e = .returned (.bool true) ∧ Below w.heap.size w w' := by
  have e1 : sI (binF 11 A B) = 1 := by simp only [binF]; rw [decide_eq_true h]; decide
  have e2 : sI (binF 13 A B) = 0 := by simp only [binF]; rw [beq_eq_false_iff_ne.2 (by omega)]; decide
  have e3 : sI (binF 11 B A) = 0 := by simp only [binF]; rw [decide_eq_false (by omega)]; decide
  have e4 : sI (binF 12 A B) = 1 := by simp only [binF]; rw [decide_eq_true (by omega)]; decide
  have e5 : sI (binF 14 A B) = 1 := by simp only [binF]; rw [bne_iff_ne.2 (by omega)]; decide
  have e6 : sI (binF 18 A B) = sI A := by simp only [binF]; rw [if_neg (by omega)]
  have e7 : sI (binF 19 A B) = sI B := by simp only [binF]; rw [if_pos h]
  have e8 : sI (binF 12 A B) = 1 := by simp only [binF]; rw [decide_eq_true (by omega)]; decide
  go_enter Try.func9, Try.ntmps9
  go_wp2_with fail
  refine (do_lit 11 (by omega) 11 (sI A) (sI B) (1) (A) (B) rfl rfl rfl e1 _).mono ?_
  rintro e w1 ⟨rfl, h1⟩
  go_wp2_with fail
  refine (do_lit 13 (by omega) 13 (sI A) (sI B) (0) (A) (B) rfl rfl rfl e2 _).mono ?_
  rintro e w2 ⟨rfl, h2⟩
  go_wp2_with fail
  refine (do_lit 11 (by omega) 11 (sI B) (sI A) (0) (B) (A) rfl rfl rfl e3 _).mono ?_
  rintro e w3 ⟨rfl, h3⟩
  go_wp2_with fail
  refine (do_lit 12 (by omega) 12 (sI A) (sI B) (1) (A) (B) rfl rfl rfl e4 _).mono ?_
  rintro e w4 ⟨rfl, h4⟩
  go_wp2_with fail
  refine (do_lit 14 (by omega) 14 (sI A) (sI B) (1) (A) (B) rfl rfl rfl e5 _).mono ?_
  rintro e w5 ⟨rfl, h5⟩
  go_wp2_with fail
  refine (do_lit 18 (by omega) 18 (sI A) (sI B) (sI A) (A) (B) rfl rfl rfl e6 _).mono ?_
  rintro e w6 ⟨rfl, h6⟩
  go_wp2_with fail
  refine (do_lit 19 (by omega) 19 (sI A) (sI B) (sI B) (A) (B) rfl rfl rfl e7 _).mono ?_
  rintro e w7 ⟨rfl, h7⟩
  go_wp2_with fail
  refine (do_lit 12 (by omega) 12 (sI A) (sI B) (1) (A) (B) rfl rfl rfl e8 _).mono ?_
  rintro e w8 ⟨rfl, h8⟩
  go_wp2_with fail
  refine (do_lit 16 (by omega) 16 (1) (0) (0) (1#32) (0#32) rfl (by decide) (by decide) (by decide) _).mono ?_
  rintro e w9 ⟨rfl, h9⟩
  go_wp2_with fail
  refine (do_lit 17 (by omega) 17 (0) (0) (0) (0#32) (0#32) rfl (by decide) (by decide) (by decide) _).mono ?_
  rintro e w10 ⟨rfl, h10⟩
  go_wp2_with fail
  refine (do_lit 17 (by omega) 17 (1) (0) (1) (1#32) (0#32) rfl (by decide) (by decide) (by decide) _).mono ?_
  rintro e w11 ⟨rfl, h11⟩
  go_wp2_with fail
  refine (awake_ _).mono ?_
  rintro e w12 ⟨rfl, h12⟩
  go_wp2
  go_ret
  exact ⟨rfl, (seq (seq (seq (seq (seq (seq (seq (seq (seq (seq (seq h1 h2) h3) h4) h5) h6) h7) h8) h9) h10) h11) h12)⟩

set_option maxRecDepth 100000 in
theorem order_eq (A : BitVec 32) (w : World) : Calls Try.prog 9 #[.int .i32 (sI A), .int .i32 (sI A)] w fun e w' => e = .returned (.bool true) ∧ Below w.heap.size w w' := by
  have e1 : sI (binF 11 A A) = 0 := by simp only [binF]; rw [decide_eq_false (by omega)]; decide
  have e2 : sI (binF 13 A A) = 1 := by simp only [binF]; rw [beq_iff_eq.2 rfl]; decide
  have e3 : sI (binF 11 A A) = 0 := by simp only [binF]; rw [decide_eq_false (by omega)]; decide
  have e4 : sI (binF 12 A A) = 1 := by simp only [binF]; rw [decide_eq_true (by omega)]; decide
  have e5 : sI (binF 14 A A) = 0 := by simp only [binF]; rw [show (sI A != sI A) = false from by simp]; decide
  have e6 : sI (binF 18 A A) = sI A := by simp only [binF]; rw [if_neg (by omega)]
  have e7 : sI (binF 19 A A) = sI A := by simp only [binF]; rw [if_neg (by omega)]
  have e8 : sI (binF 12 A A) = 1 := by simp only [binF]; rw [decide_eq_true (by omega)]; decide
  go_enter Try.func9, Try.ntmps9
  go_wp2_with fail
  refine (do_lit 11 (by omega) 11 (sI A) (sI A) (0) (A) (A) rfl rfl rfl e1 _).mono ?_
  rintro e w1 ⟨rfl, h1⟩
  go_wp2_with fail
  refine (do_lit 13 (by omega) 13 (sI A) (sI A) (1) (A) (A) rfl rfl rfl e2 _).mono ?_
  rintro e w2 ⟨rfl, h2⟩
  go_wp2_with fail
  refine (do_lit 11 (by omega) 11 (sI A) (sI A) (0) (A) (A) rfl rfl rfl e3 _).mono ?_
  rintro e w3 ⟨rfl, h3⟩
  go_wp2_with fail
  refine (do_lit 12 (by omega) 12 (sI A) (sI A) (1) (A) (A) rfl rfl rfl e4 _).mono ?_
  rintro e w4 ⟨rfl, h4⟩
  go_wp2_with fail
  refine (do_lit 14 (by omega) 14 (sI A) (sI A) (0) (A) (A) rfl rfl rfl e5 _).mono ?_
  rintro e w5 ⟨rfl, h5⟩
  go_wp2_with fail
  refine (do_lit 18 (by omega) 18 (sI A) (sI A) (sI A) (A) (A) rfl rfl rfl e6 _).mono ?_
  rintro e w6 ⟨rfl, h6⟩
  go_wp2_with fail
  refine (do_lit 19 (by omega) 19 (sI A) (sI A) (sI A) (A) (A) rfl rfl rfl e7 _).mono ?_
  rintro e w7 ⟨rfl, h7⟩
  go_wp2_with fail
  refine (do_lit 12 (by omega) 12 (sI A) (sI A) (1) (A) (A) rfl rfl rfl e8 _).mono ?_
  rintro e w8 ⟨rfl, h8⟩
  go_wp2_with fail
  refine (do_lit 16 (by omega) 16 (0) (1) (0) (0#32) (1#32) rfl (by decide) (by decide) (by decide) _).mono ?_
  rintro e w9 ⟨rfl, h9⟩
  go_wp2_with fail
  refine (do_lit 17 (by omega) 17 (1) (0) (1) (1#32) (0#32) rfl (by decide) (by decide) (by decide) _).mono ?_
  rintro e w10 ⟨rfl, h10⟩
  go_wp2_with fail
  refine (do_lit 17 (by omega) 17 (0) (1) (1) (0#32) (1#32) rfl (by decide) (by decide) (by decide) _).mono ?_
  rintro e w11 ⟨rfl, h11⟩
  go_wp2_with fail
  refine (awake_ _).mono ?_
  rintro e w12 ⟨rfl, h12⟩
  go_wp2
  go_ret
  exact ⟨rfl, (seq (seq (seq (seq (seq (seq (seq (seq (seq (seq (seq h1 h2) h3) h4) h5) h6) h7) h8) h9) h10) h11) h12)⟩

set_option maxRecDepth 100000 in
theorem order_gt (A B : BitVec 32) (h : sI B < sI A) (w : World) : Calls Try.prog 9 #[.int .i32 (sI A), .int .i32 (sI B)] w fun e w' => e = .returned (.bool true) ∧ Below w.heap.size w w' := by
  have e1 : sI (binF 11 A B) = 0 := by simp only [binF]; rw [decide_eq_false (by omega)]; decide
  have e2 : sI (binF 13 A B) = 0 := by simp only [binF]; rw [beq_eq_false_iff_ne.2 (by omega)]; decide
  have e3 : sI (binF 11 B A) = 1 := by simp only [binF]; rw [decide_eq_true h]; decide
  have e4 : sI (binF 12 A B) = 0 := by simp only [binF]; rw [decide_eq_false (by omega)]; decide
  have e5 : sI (binF 14 A B) = 1 := by simp only [binF]; rw [bne_iff_ne.2 (by omega)]; decide
  have e6 : sI (binF 18 A B) = sI B := by simp only [binF]; rw [if_pos h]
  have e7 : sI (binF 19 A B) = sI A := by simp only [binF]; rw [if_neg (by omega)]
  have e8 : sI (binF 12 B A) = 1 := by simp only [binF]; rw [decide_eq_true (by omega)]; decide
  have n1 : (sI B == sI A) = false := by rw [beq_eq_false_iff_ne]; omega
  have n2 : (sI A == sI B) = false := by rw [beq_eq_false_iff_ne]; omega
  go_enter Try.func9, Try.ntmps9
  go_wp2_with fail
  refine (do_lit 11 (by omega) 11 (sI A) (sI B) (0) (A) (B) rfl rfl rfl e1 _).mono ?_
  rintro e w1 ⟨rfl, h1⟩
  go_wp2_with fail
  refine (do_lit 13 (by omega) 13 (sI A) (sI B) (0) (A) (B) rfl rfl rfl e2 _).mono ?_
  rintro e w2 ⟨rfl, h2⟩
  go_wp2_with fail
  refine (do_lit 11 (by omega) 11 (sI B) (sI A) (1) (B) (A) rfl rfl rfl e3 _).mono ?_
  rintro e w3 ⟨rfl, h3⟩
  go_wp2_with fail
  refine (do_lit 12 (by omega) 12 (sI A) (sI B) (0) (A) (B) rfl rfl rfl e4 _).mono ?_
  rintro e w4 ⟨rfl, h4⟩
  go_wp2_with fail
  refine (do_lit 14 (by omega) 14 (sI A) (sI B) (1) (A) (B) rfl rfl rfl e5 _).mono ?_
  rintro e w5 ⟨rfl, h5⟩
  go_wp2_with fail
  refine (do_lit 18 (by omega) 18 (sI A) (sI B) (sI B) (A) (B) rfl rfl rfl e6 _).mono ?_
  rintro e w6 ⟨rfl, h6⟩
  go_wp2_with fail
  refine (do_lit 19 (by omega) 19 (sI A) (sI B) (sI A) (A) (B) rfl rfl rfl e7 _).mono ?_
  rintro e w7 ⟨rfl, h7⟩
  go_wp2_with fail
  refine (do_lit 12 (by omega) 12 (sI B) (sI A) (1) (B) (A) rfl rfl rfl e8 _).mono ?_
  rintro e w8 ⟨rfl, h8⟩
  go_wp2_with fail
  refine (do_lit 16 (by omega) 16 (0) (0) (0) (0#32) (0#32) rfl (by decide) (by decide) (by decide) _).mono ?_
  rintro e w9 ⟨rfl, h9⟩
  go_wp2_with fail
  refine (do_lit 17 (by omega) 17 (0) (1) (1) (0#32) (1#32) rfl (by decide) (by decide) (by decide) _).mono ?_
  rintro e w10 ⟨rfl, h10⟩
  go_wp2_with fail
  refine (do_lit 17 (by omega) 17 (0) (1) (1) (0#32) (1#32) rfl (by decide) (by decide) (by decide) _).mono ?_
  rintro e w11 ⟨rfl, h11⟩
  go_wp2_with fail
  refine (awake_ _).mono ?_
  rintro e w12 ⟨rfl, h12⟩
  go_wp2
  go_ret
  exact ⟨rfl, (seq (seq (seq (seq (seq (seq (seq (seq (seq (seq (seq h1 h2) h3) h4) h5) h6) h7) h8) h9) h10) h11) h12)⟩

theorem order_walk (A B : BitVec 32) (w : World) : Calls Try.prog 9 #[.int .i32 (sI A), .int .i32 (sI B)] w fun e w' => e = .returned (.bool true) ∧ Below w.heap.size w w' := by
  rcases Int.lt_trichotomy (sI A) (sI B) with h | h | h
  · exact order_lt A B h w
  · rw [← sI_inj h]; exact order_eq A w
  · exact order_gt A B h w
end Go.Proofs.Ytdlfgfghjdobjaa.Num
