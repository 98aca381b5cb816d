import Derived.Test.YtdlfgfghjdobjaaRShift
/- The reference's Binary, at each operator; its Fold; the laws of binary operators and of folds over words. -/
namespace Go.Proofs.Ytdlfgfghjdobjaa.Num
open Go.ChangeShapes Go.WideShapes Go.ChangeAt Go.RowKit

theorem ret2_ii {k : IntKind} {a b c d : Int} (h : a = b) (h2 : c = d) : Ending.returned (.tuple #[.int k a, .int k c]) = .returned (.tuple #[.int k b, .int k d]) := by rw [h, h2]
def dv (A B : BitVec 32) : BitVec 32 := binF 3 A B
def rm (A B : BitVec 32) : BitVec 32 := binF 4 A B
theorem divide_ (A B : BitVec 32) (w : World) : Calls Try.prog 33 #[.int .i32 (sI A), .int .i32 (sI B)] w fun e w' => e = .returned (.tuple #[.int .i32 (sI (dv A B)), .int .i32 (sI (rm A B))]) ∧ w = w' := by
  have a1 := sI_lo A
  have a2 := sI_hi A
  have b1 := sI_lo B
  have b2 := sI_hi B
  by_cases h : B = 0#32
  · have t1 : (sI B == 0) = true := by rw [h]; decide
    have e1 : sI (dv A B) = 0 := by rw [h]; simp only [dv, binF, if_true]; decide
    have e2 : sI (rm A B) = 0 := by rw [h]; simp only [rm, binF, if_true]; decide
    have H1 := Lib.hid e1
    have H2 := Lib.hid e2
    clear e1 e2 h
    go_enter Try.func33, Try.ntmps33
    go_wp2
    go_ret2
    exact ⟨by rw [H1.out, H2.out]; rfl, rfl⟩
  · have t1 : (sI B == 0) = false := by
      rw [beq_eq_false_iff_ne]; intro e; exact h (sI_inj (e.trans (by decide)))
    have n1 : ¬ sI B = 0 := by simpa using t1
    have q0 : wrap64 ((sI A).tdiv (sI B)) = (sI A).tdiv (sI B) := by
      refine IntWalk.wrap64_in _ ?_
      have h1 := Int.natAbs_tdiv_le_natAbs (sI A) (sI B)
      omega
    have e1 : sI (dv A B) = wrap32 ((sI A).tdiv (sI B)) := by simp only [dv, binF, if_neg h]; exact (div_sI A B).symm
    have e3 : sI (rm A B) = (sI A).tmod (sI B) := by simp only [rm, binF, if_neg h]; exact (rem_sI A B).symm
    have e4 := Int.tdiv_mul_add_tmod (sI A) (sI B)
    have e5 : -2147483648 ≤ (sI A).tmod (sI B) ∧ (sI A).tmod (sI B) ≤ 2147483647 := by rw [← e3]; exact ⟨sI_lo _, sI_hi _⟩
    have q1 : wrap64 ((sI A).tdiv (sI B) * sI B) = (sI A).tdiv (sI B) * sI B := IntWalk.wrap64_in _ (by omega)
    have q2 : sI A - (sI A).tdiv (sI B) * sI B = (sI A).tmod (sI B) := by omega
    have q3 : wrap32 ((sI A).tmod (sI B)) = (sI A).tmod (sI B) := IntWalk.wrap32_in _ (by omega)
    have H1 := Lib.hid (show wrap32 (wrap64 ((sI A).tdiv (sI B))) = sI (dv A B) by rw [q0, e1])
    have H2 := Lib.hid (show wrap32 (wrap64 (sI A - wrap64 (wrap64 ((sI A).tdiv (sI B)) * sI B))) = sI (rm A B) by
      rw [q0, q1, q2, IntWalk.wrap64_in _ (by omega), q3, e3])
    clear q0 q1 q2 q3 e1 e3 e4 e5 h
    go_enter Try.func33, Try.ntmps33
    go_wp2_with fail
    refine (wrap_ _ _).mono ?_
    rintro e w1 ⟨rfl, rfl⟩
    go_wp2_with fail
    refine (wrap_ _ _).mono ?_
    rintro e w2 ⟨rfl, rfl⟩
    go_wp2
    go_ret2
    exact ⟨ret2_ii H1.out H2.out, rfl⟩

theorem wrap32_64 (n : Int) : wrap32 (wrap64 n) = wrap32 n := by unfold wrap32 wrap64; omega
theorem mul64 (A B : BitVec 32) : wrap32 (wrap64 (sI A * sI B)) = sI (binF 2 A B) := by rw [wrap32_64]; exact mul_sI A B
/-- What the reference's Binary does at operator o. -/
def RBin (i : Nat) (o : Int) : Prop := ∀ (A B : BitVec 32) (w : World), Calls Try.prog 13 #[.int .i64 o, .int .i32 (sI A), .int .i32 (sI B)] w fun e w' => e = .returned (.tuple #[.int .i32 (sI (binF i A B)), .bool true]) ∧ Below w.heap.size w w'

set_option maxRecDepth 100000 in
theorem rbin0 : RBin 0 0 := by
  intro A B w
  have a1 := sI_lo A
  have a2 := sI_hi A
  have b1 := sI_lo B
  have b2 := sI_hi B
  go_enter Try.func13, Try.ntmps13
  go_wp2_with (first | (go_at_call 33; refine (divide_ A B _).mono ?_; rintro e w1 ⟨rfl, rfl⟩) | (go_at_call 34; refine (wrap_ _ _).mono ?_; rintro e w2 ⟨rfl, rfl⟩))
  go_ret2
  exact ⟨ret2_i (add_sI A B), Below.refl _ _⟩

set_option maxRecDepth 100000 in
theorem rbin1 : RBin 1 1 := by
  intro A B w
  have a1 := sI_lo A
  have a2 := sI_hi A
  have b1 := sI_lo B
  have b2 := sI_hi B
  go_enter Try.func13, Try.ntmps13
  go_wp2_with (first | (go_at_call 33; refine (divide_ A B _).mono ?_; rintro e w1 ⟨rfl, rfl⟩) | (go_at_call 34; refine (wrap_ _ _).mono ?_; rintro e w2 ⟨rfl, rfl⟩))
  go_ret2
  exact ⟨ret2_i (sub_sI A B), Below.refl _ _⟩

set_option maxRecDepth 100000 in
theorem rbin2 : RBin 2 2 := by
  intro A B w
  have a1 := sI_lo A
  have a2 := sI_hi A
  have b1 := sI_lo B
  have b2 := sI_hi B
  have HM := Lib.hid (mul64 A B)
  go_enter Try.func13, Try.ntmps13
  go_wp2_with (first | (go_at_call 33; refine (divide_ A B _).mono ?_; rintro e w1 ⟨rfl, rfl⟩) | (go_at_call 34; refine (wrap_ _ _).mono ?_; rintro e w2 ⟨rfl, rfl⟩))
  go_ret2
  exact ⟨ret2_i HM.out, Below.refl _ _⟩

set_option maxRecDepth 100000 in
theorem rbin3 : RBin 3 3 := by
  intro A B w
  go_enter Try.func13, Try.ntmps13
  go_wp2_with (first | (go_at_call 33; refine (divide_ A B _).mono ?_; rintro e w1 ⟨rfl, rfl⟩))
  go_ret2
  exact ⟨rfl, Below.refl _ _⟩

set_option maxRecDepth 100000 in
theorem rbin4 : RBin 4 4 := by
  intro A B w
  go_enter Try.func13, Try.ntmps13
  go_wp2_with (first | (go_at_call 33; refine (divide_ A B _).mono ?_; rintro e w1 ⟨rfl, rfl⟩))
  go_ret2
  exact ⟨rfl, Below.refl _ _⟩

set_option maxRecDepth 100000 in
theorem rbin5 : RBin 5 5 := by
  intro A B w
  go_enter Try.func13, Try.ntmps13
  go_wp2_with (first | (go_at_call 33; refine (divide_ A B _).mono ?_; rintro e w1 ⟨rfl, rfl⟩) | (go_at_call 35; refine (rboth5 A B _).mono ?_; rintro e w2 ⟨rfl, h2⟩))
  go_ret2
  exact ⟨rfl, h2⟩

set_option maxRecDepth 100000 in
theorem rbin6 : RBin 6 6 := by
  intro A B w
  go_enter Try.func13, Try.ntmps13
  go_wp2_with (first | (go_at_call 33; refine (divide_ A B _).mono ?_; rintro e w1 ⟨rfl, rfl⟩) | (go_at_call 35; refine (rboth6 A B _).mono ?_; rintro e w2 ⟨rfl, h2⟩))
  go_ret2
  exact ⟨rfl, h2⟩

set_option maxRecDepth 100000 in
theorem rbin7 : RBin 7 7 := by
  intro A B w
  go_enter Try.func13, Try.ntmps13
  go_wp2_with (first | (go_at_call 33; refine (divide_ A B _).mono ?_; rintro e w1 ⟨rfl, rfl⟩) | (go_at_call 35; refine (rboth7 A B _).mono ?_; rintro e w2 ⟨rfl, h2⟩))
  go_ret2
  exact ⟨rfl, h2⟩

set_option maxRecDepth 100000 in
theorem rbin8 : RBin 8 8 := by
  intro A B w
  go_enter Try.func13, Try.ntmps13
  go_wp2_with (first | (go_at_call 33; refine (divide_ A B _).mono ?_; rintro e w1 ⟨rfl, rfl⟩) | (go_at_call 36; refine (rshift8 A B _).mono ?_; rintro e w2 ⟨rfl, h2⟩))
  go_ret2
  exact ⟨rfl, h2⟩

set_option maxRecDepth 100000 in
theorem rbin9 : RBin 9 9 := by
  intro A B w
  go_enter Try.func13, Try.ntmps13
  go_wp2_with (first | (go_at_call 33; refine (divide_ A B _).mono ?_; rintro e w1 ⟨rfl, rfl⟩) | (go_at_call 36; refine (rshift9 A B _).mono ?_; rintro e w2 ⟨rfl, h2⟩))
  go_ret2
  exact ⟨rfl, h2⟩

set_option maxRecDepth 100000 in
theorem rbin10 : RBin 10 10 := by
  intro A B w
  go_enter Try.func13, Try.ntmps13
  go_wp2_with (first | (go_at_call 33; refine (divide_ A B _).mono ?_; rintro e w1 ⟨rfl, rfl⟩) | (go_at_call 36; refine (rshift10 A B _).mono ?_; rintro e w2 ⟨rfl, h2⟩))
  go_ret2
  exact ⟨rfl, h2⟩

set_option maxRecDepth 100000 in
theorem rbin11 : RBin 11 11 := by
  intro A B w
  have a1 := sI_lo A
  have a2 := sI_hi A
  have b1 := sI_lo B
  have b2 := sI_hi B
  go_enter Try.func13, Try.ntmps13
  go_wp2_with (first | (go_at_call 33; refine (divide_ A B _).mono ?_; rintro e w1 ⟨rfl, rfl⟩) | (go_at_call 37; refine (rtruth_ _ _).mono ?_; rintro e w2 ⟨rfl, rfl⟩))
  go_ret2
  exact ⟨rfl, Below.refl _ _⟩

set_option maxRecDepth 100000 in
theorem rbin12 : RBin 12 12 := by
  intro A B w
  have a1 := sI_lo A
  have a2 := sI_hi A
  have b1 := sI_lo B
  have b2 := sI_hi B
  go_enter Try.func13, Try.ntmps13
  go_wp2_with (first | (go_at_call 33; refine (divide_ A B _).mono ?_; rintro e w1 ⟨rfl, rfl⟩) | (go_at_call 37; refine (rtruth_ _ _).mono ?_; rintro e w2 ⟨rfl, rfl⟩))
  go_ret2
  exact ⟨rfl, Below.refl _ _⟩

set_option maxRecDepth 100000 in
theorem rbin13 : RBin 13 13 := by
  intro A B w
  have a1 := sI_lo A
  have a2 := sI_hi A
  have b1 := sI_lo B
  have b2 := sI_hi B
  go_enter Try.func13, Try.ntmps13
  go_wp2_with (first | (go_at_call 33; refine (divide_ A B _).mono ?_; rintro e w1 ⟨rfl, rfl⟩) | (go_at_call 37; refine (rtruth_ _ _).mono ?_; rintro e w2 ⟨rfl, rfl⟩))
  go_ret2
  exact ⟨rfl, Below.refl _ _⟩

set_option maxRecDepth 100000 in
theorem rbin14 : RBin 14 14 := by
  intro A B w
  have a1 := sI_lo A
  have a2 := sI_hi A
  have b1 := sI_lo B
  have b2 := sI_hi B
  go_enter Try.func13, Try.ntmps13
  go_wp2_with (first | (go_at_call 33; refine (divide_ A B _).mono ?_; rintro e w1 ⟨rfl, rfl⟩) | (go_at_call 37; refine (rtruth_ _ _).mono ?_; rintro e w2 ⟨rfl, rfl⟩))
  go_ret2
  exact ⟨rfl, Below.refl _ _⟩

set_option maxRecDepth 100000 in
theorem rbin15 : RBin 15 15 := by
  intro A B w
  have hm := mod_sI A
  have hn := mod_sI B
  go_enter Try.func13, Try.ntmps13
  go_wp2_with (first | (go_at_call 33; refine (divide_ A B _).mono ?_; rintro e w1 ⟨rfl, rfl⟩) | (go_at_call 37; refine (rtruth_ _ _).mono ?_; rintro e w2 ⟨rfl, rfl⟩))
  go_ret2
  exact ⟨ret2_i (by simp [binF]), Below.refl _ _⟩

theorem tr16 (A B : BitVec 32) (c : Bool) (h : (sI A != 0) = c) : binF 16 A B = tr (c && sI B != 0) := by rw [← h]; rfl
set_option maxRecDepth 100000 in
theorem rbin16 : RBin 16 16 := by
  intro A B w
  cases h : (sI A != 0)
  all_goals
    have H := Lib.hid (congrArg sI (tr16 A B _ h).symm)
    go_enter Try.func13, Try.ntmps13
    go_wp2_with (first | (go_at_call 33; refine (divide_ A B _).mono ?_; rintro e w1 ⟨rfl, rfl⟩) | (go_at_call 37; refine (rtruth_ _ _).mono ?_; rintro e w2 ⟨rfl, rfl⟩))
    go_ret2
    exact ⟨ret2_i H.out, Below.refl _ _⟩

theorem tr17 (A B : BitVec 32) (c : Bool) (h : (sI A != 0) = c) : binF 17 A B = tr (c || sI B != 0) := by rw [← h]; rfl
set_option maxRecDepth 100000 in
theorem rbin17 : RBin 17 17 := by
  intro A B w
  cases h : (sI A != 0)
  all_goals
    have H := Lib.hid (congrArg sI (tr17 A B _ h).symm)
    go_enter Try.func13, Try.ntmps13
    go_wp2_with (first | (go_at_call 33; refine (divide_ A B _).mono ?_; rintro e w1 ⟨rfl, rfl⟩) | (go_at_call 37; refine (rtruth_ _ _).mono ?_; rintro e w2 ⟨rfl, rfl⟩))
    go_ret2
    exact ⟨ret2_i H.out, Below.refl _ _⟩

set_option maxRecDepth 100000 in
theorem rbin18 : RBin 18 18 := by
  intro A B w
  by_cases h : sI B < sI A
  all_goals
    go_enter Try.func13, Try.ntmps13
    go_wp2_with (first | (go_at_call 33; refine (divide_ A B _).mono ?_; rintro e w1 ⟨rfl, rfl⟩))
    go_ret2
    exact ⟨ret2_i (by simp only [binF]; first | rw [if_pos (by omega)] | rw [if_neg (by omega)]), Below.refl _ _⟩

set_option maxRecDepth 100000 in
theorem rbin19 : RBin 19 19 := by
  intro A B w
  by_cases h : sI A < sI B
  all_goals
    go_enter Try.func13, Try.ntmps13
    go_wp2_with (first | (go_at_call 33; refine (divide_ A B _).mono ?_; rintro e w1 ⟨rfl, rfl⟩))
    go_ret2
    exact ⟨ret2_i (by simp only [binF]; first | rw [if_pos (by omega)] | rw [if_neg (by omega)]), Below.refl _ _⟩

theorem rbin_in : ∀ i, i < 20 → RBin i (i : Int) := (below_succ (below_succ (below_succ (below_succ (below_succ (below_succ (below_succ (below_succ (below_succ (below_succ (below_succ (below_succ (below_succ (below_succ (below_succ (below_succ (below_succ (below_succ (below_succ (below_succ below_zero rbin0) rbin1) rbin2) rbin3) rbin4) rbin5) rbin6) rbin7) rbin8) rbin9) rbin10) rbin11) rbin12) rbin13) rbin14) rbin15) rbin16) rbin17) rbin18) rbin19)
end Go.Proofs.Ytdlfgfghjdobjaa.Num
