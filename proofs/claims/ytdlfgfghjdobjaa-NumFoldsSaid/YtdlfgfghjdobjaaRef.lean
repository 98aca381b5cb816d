import Derived.Test.YtdlfgfghjdobjaaWCommutes
/- The reference's small functions: what each returns. -/
namespace Go.Proofs.Ytdlfgfghjdobjaa.Num
open Go.ChangeShapes Go.WideShapes Go.ChangeAt Go.RowKit

theorem wrap_ (n : Int) (w : World) : Calls Try.prog 34 #[.int .i64 n] w fun e w' => e = .returned (.int .i32 (wrap32 n)) ∧ w = w' := by
  go_enter Try.func34, Try.ntmps34
  go_wp2
  go_ret
  exact ⟨rfl, rfl⟩
theorem rtruth_ (c : Bool) (w : World) : Calls Try.prog 37 #[.bool c] w fun e w' => e = .returned (.int .i32 (sI (tr c))) ∧ w = w' := by
  cases c
  all_goals
    go_enter Try.func37, Try.ntmps37
    go_wp2
    go_ret
    exact ⟨rfl, rfl⟩
theorem rnot_sI (A : BitVec 32) : wrap32 (-1 - sI A) = sI (~~~A) := by
  have h := sub_sI (BitVec.allOnes 32) A
  rw [show sI (BitVec.allOnes 32) = -1 from by decide] at h
  rw [h, BitVec.allOnes_sub_eq_not]

theorem runary0 (A : BitVec 32) (w : World) : Calls Try.prog 20 #[.int .i64 0, .int .i32 (sI A)] w fun e w' => e = .returned (.tuple #[.int .i32 (sI (unF 0 A)), .bool true]) ∧ w = w' := by
  have b1 := sI_lo A
  have b2 := sI_hi A
  go_enter Try.func20, Try.ntmps20
  go_wp2_with (go_at_call 34; refine (wrap_ _ _).mono ?_; rintro e w' ⟨rfl, rfl⟩)
  go_ret2
  exact ⟨ret2_i (neg_sI A), rfl⟩
theorem runary1 (A : BitVec 32) (w : World) : Calls Try.prog 20 #[.int .i64 1, .int .i32 (sI A)] w fun e w' => e = .returned (.tuple #[.int .i32 (sI (unF 1 A)), .bool true]) ∧ w = w' := by
  have b1 := sI_lo A
  have b2 := sI_hi A
  go_enter Try.func20, Try.ntmps20
  go_wp2_with (go_at_call 34; refine (wrap_ _ _).mono ?_; rintro e w' ⟨rfl, rfl⟩)
  go_ret2
  exact ⟨ret2_i (rnot_sI A), rfl⟩
theorem runary2 (A : BitVec 32) (w : World) : Calls Try.prog 20 #[.int .i64 2, .int .i32 (sI A)] w fun e w' => e = .returned (.tuple #[.int .i32 (sI (unF 2 A)), .bool true]) ∧ w = w' := by
  go_enter Try.func20, Try.ntmps20
  go_wp2_with (go_at_call 37; refine (rtruth_ _ _).mono ?_; rintro e w' ⟨rfl, rfl⟩)
  go_ret2
  exact ⟨rfl, rfl⟩
theorem runary_out (o : Int) (h : o < 0 ∨ 3 ≤ o) (x : Int) (w : World) : Calls Try.prog 20 #[.int .i64 o, .int .i32 x] w fun e w' => e = .returned (.tuple #[.int .i32 0, .bool false]) ∧ w = w' := by
  have h0 : (o == 0) = false := by rw [beq_eq_false_iff_ne]; omega
  have h1 : (o == 1) = false := by rw [beq_eq_false_iff_ne]; omega
  have h2 : (o == 2) = false := by rw [beq_eq_false_iff_ne]; omega
  clear h
  go_enter Try.func20, Try.ntmps20
  go_wp2
  go_ret2
  exact ⟨rfl, rfl⟩

theorem isUnary_in (o : Int) (h0 : 0 ≤ o) (h1 : o < 3) (w : World) : Calls Try.prog 39 #[.int .i64 o] w fun e w' => e = .returned (.bool true) ∧ w = w' := by
  go_enter Try.func39, Try.ntmps39
  go_wp2
  go_ret
  exact ⟨rfl, rfl⟩
theorem isUnary_out (o : Int) (h : o < 0 ∨ 3 ≤ o) (w : World) : Calls Try.prog 39 #[.int .i64 o] w fun e w' => e = .returned (.bool false) ∧ w = w' := by
  rcases h with h | h
  · have h' : ¬ 0 ≤ o := by omega
    go_enter Try.func39, Try.ntmps39
    go_wp2
    go_ret
    exact ⟨rfl, rfl⟩
  · have h' : 0 ≤ o := by omega
    have h2 : ¬ o < 3 := by omega
    go_enter Try.func39, Try.ntmps39
    go_wp2
    go_ret
    exact ⟨rfl, rfl⟩
theorem rtextU_out (o : Int) (h : o < 0 ∨ 3 ≤ o) (w : World) : Calls Try.prog 22 #[.int .i64 o] w fun e w' => e = .returned (.string ⟨#[]⟩) ∧ Below w.heap.size w w' := by
  go_enter Try.func22, Try.ntmps22
  go_wp2_with (go_at_call 39; refine (isUnary_out o h _).mono ?_; rintro e w' ⟨rfl, rfl⟩)
  go_ret
  exact ⟨rfl, Below.refl _ _⟩

theorem rtextU0 (w : World) : Calls Try.prog 22 #[.int .i64 0] w fun e w' => e = .returned (.string ⟨(sgu 0).toArray⟩) ∧ Below w.heap.size w w' := by
  go_enter Try.func22, Try.ntmps22
  go_wp2_with (go_at_call 39; refine (isUnary_in 0 (by omega) (by omega) _).mono ?_; rintro e w' ⟨rfl, rfl⟩)
  go_ret
  exact ⟨rfl, (Below.refl _ _).alloc (Nat.le_refl _) _⟩

theorem rtextU1 (w : World) : Calls Try.prog 22 #[.int .i64 1] w fun e w' => e = .returned (.string ⟨(sgu 1).toArray⟩) ∧ Below w.heap.size w w' := by
  go_enter Try.func22, Try.ntmps22
  go_wp2_with (go_at_call 39; refine (isUnary_in 1 (by omega) (by omega) _).mono ?_; rintro e w' ⟨rfl, rfl⟩)
  go_ret
  exact ⟨rfl, (Below.refl _ _).alloc (Nat.le_refl _) _⟩

theorem rtextU2 (w : World) : Calls Try.prog 22 #[.int .i64 2] w fun e w' => e = .returned (.string ⟨(sgu 2).toArray⟩) ∧ Below w.heap.size w w' := by
  go_enter Try.func22, Try.ntmps22
  go_wp2_with (go_at_call 39; refine (isUnary_in 2 (by omega) (by omega) _).mono ?_; rintro e w' ⟨rfl, rfl⟩)
  go_ret
  exact ⟨rfl, (Below.refl _ _).alloc (Nat.le_refl _) _⟩

theorem rtext_out (o : Int) (h : o < 0 ∨ 20 ≤ o) (w : World) : Calls Try.prog 17 #[.int .i64 o] w fun e w' => e = .returned (.string ⟨#[]⟩) ∧ Below w.heap.size w w' := by
  go_enter Try.func17, Try.ntmps17
  go_wp2_with (go_at_call 31; refine (isBinary_out o h _).mono ?_; rintro e w' ⟨rfl, rfl⟩)
  go_ret
  exact ⟨rfl, Below.refl _ _⟩
def RText (i : Nat) (o : Int) : Prop := ∀ w : World, Calls Try.prog 17 #[.int .i64 o] w fun e w' => e = .returned (.string ⟨(sgn i).toArray⟩) ∧ Below w.heap.size w w'
def RCom (i : Nat) (o : Int) : Prop := ∀ w : World, Calls Try.prog 15 #[.int .i64 o] w fun e w' => e = .returned (.bool (com i)) ∧ w = w'
theorem rcom_out (o : Int) (h : o < 0 ∨ 20 ≤ o) (w : World) : Calls Try.prog 15 #[.int .i64 o] w fun e w' => e = .returned (.bool false) ∧ w = w' := by
  have h0 : (o == 0) = false := by rw [beq_eq_false_iff_ne]; omega
  have h2 : (o == 2) = false := by rw [beq_eq_false_iff_ne]; omega
  have h5 : (o == 5) = false := by rw [beq_eq_false_iff_ne]; omega
  have h6 : (o == 6) = false := by rw [beq_eq_false_iff_ne]; omega
  have h7 : (o == 7) = false := by rw [beq_eq_false_iff_ne]; omega
  have h13 : (o == 13) = false := by rw [beq_eq_false_iff_ne]; omega
  have h14 : (o == 14) = false := by rw [beq_eq_false_iff_ne]; omega
  have h16 : (o == 16) = false := by rw [beq_eq_false_iff_ne]; omega
  have h17 : (o == 17) = false := by rw [beq_eq_false_iff_ne]; omega
  have h18 : (o == 18) = false := by rw [beq_eq_false_iff_ne]; omega
  have h19 : (o == 19) = false := by rw [beq_eq_false_iff_ne]; omega
  clear h
  go_enter Try.func15, Try.ntmps15
  go_wp2
  go_ret
  exact ⟨rfl, rfl⟩

theorem rtext0 : RText 0 0 := by
  intro w
  go_enter Try.func17, Try.ntmps17
  go_wp2_with (go_at_call 31; refine (isBinary_in 0 (by omega) (by omega) _).mono ?_; rintro e w' ⟨rfl, rfl⟩)
  go_ret
  exact ⟨rfl, (Below.refl _ _).alloc (Nat.le_refl _) _⟩
theorem rcom0 : RCom 0 0 := by
  intro w
  go_enter Try.func15, Try.ntmps15
  go_wp2
  go_ret
  exact ⟨rfl, rfl⟩

theorem rtext1 : RText 1 1 := by
  intro w
  go_enter Try.func17, Try.ntmps17
  go_wp2_with (go_at_call 31; refine (isBinary_in 1 (by omega) (by omega) _).mono ?_; rintro e w' ⟨rfl, rfl⟩)
  go_ret
  exact ⟨rfl, (Below.refl _ _).alloc (Nat.le_refl _) _⟩
theorem rcom1 : RCom 1 1 := by
  intro w
  go_enter Try.func15, Try.ntmps15
  go_wp2
  go_ret
  exact ⟨rfl, rfl⟩

theorem rtext2 : RText 2 2 := by
  intro w
  go_enter Try.func17, Try.ntmps17
  go_wp2_with (go_at_call 31; refine (isBinary_in 2 (by omega) (by omega) _).mono ?_; rintro e w' ⟨rfl, rfl⟩)
  go_ret
  exact ⟨rfl, (Below.refl _ _).alloc (Nat.le_refl _) _⟩
theorem rcom2 : RCom 2 2 := by
  intro w
  go_enter Try.func15, Try.ntmps15
  go_wp2
  go_ret
  exact ⟨rfl, rfl⟩

theorem rtext3 : RText 3 3 := by
  intro w
  go_enter Try.func17, Try.ntmps17
  go_wp2_with (go_at_call 31; refine (isBinary_in 3 (by omega) (by omega) _).mono ?_; rintro e w' ⟨rfl, rfl⟩)
  go_ret
  exact ⟨rfl, (Below.refl _ _).alloc (Nat.le_refl _) _⟩
theorem rcom3 : RCom 3 3 := by
  intro w
  go_enter Try.func15, Try.ntmps15
  go_wp2
  go_ret
  exact ⟨rfl, rfl⟩

theorem rtext4 : RText 4 4 := by
  intro w
  go_enter Try.func17, Try.ntmps17
  go_wp2_with (go_at_call 31; refine (isBinary_in 4 (by omega) (by omega) _).mono ?_; rintro e w' ⟨rfl, rfl⟩)
  go_ret
  exact ⟨rfl, (Below.refl _ _).alloc (Nat.le_refl _) _⟩
theorem rcom4 : RCom 4 4 := by
  intro w
  go_enter Try.func15, Try.ntmps15
  go_wp2
  go_ret
  exact ⟨rfl, rfl⟩

theorem rtext5 : RText 5 5 := by
  intro w
  go_enter Try.func17, Try.ntmps17
  go_wp2_with (go_at_call 31; refine (isBinary_in 5 (by omega) (by omega) _).mono ?_; rintro e w' ⟨rfl, rfl⟩)
  go_ret
  exact ⟨rfl, (Below.refl _ _).alloc (Nat.le_refl _) _⟩
theorem rcom5 : RCom 5 5 := by
  intro w
  go_enter Try.func15, Try.ntmps15
  go_wp2
  go_ret
  exact ⟨rfl, rfl⟩

theorem rtext6 : RText 6 6 := by
  intro w
  go_enter Try.func17, Try.ntmps17
  go_wp2_with (go_at_call 31; refine (isBinary_in 6 (by omega) (by omega) _).mono ?_; rintro e w' ⟨rfl, rfl⟩)
  go_ret
  exact ⟨rfl, (Below.refl _ _).alloc (Nat.le_refl _) _⟩
theorem rcom6 : RCom 6 6 := by
  intro w
  go_enter Try.func15, Try.ntmps15
  go_wp2
  go_ret
  exact ⟨rfl, rfl⟩

theorem rtext7 : RText 7 7 := by
  intro w
  go_enter Try.func17, Try.ntmps17
  go_wp2_with (go_at_call 31; refine (isBinary_in 7 (by omega) (by omega) _).mono ?_; rintro e w' ⟨rfl, rfl⟩)
  go_ret
  exact ⟨rfl, (Below.refl _ _).alloc (Nat.le_refl _) _⟩
theorem rcom7 : RCom 7 7 := by
  intro w
  go_enter Try.func15, Try.ntmps15
  go_wp2
  go_ret
  exact ⟨rfl, rfl⟩

theorem rtext8 : RText 8 8 := by
  intro w
  go_enter Try.func17, Try.ntmps17
  go_wp2_with (go_at_call 31; refine (isBinary_in 8 (by omega) (by omega) _).mono ?_; rintro e w' ⟨rfl, rfl⟩)
  go_ret
  exact ⟨rfl, (Below.refl _ _).alloc (Nat.le_refl _) _⟩
theorem rcom8 : RCom 8 8 := by
  intro w
  go_enter Try.func15, Try.ntmps15
  go_wp2
  go_ret
  exact ⟨rfl, rfl⟩

theorem rtext9 : RText 9 9 := by
  intro w
  go_enter Try.func17, Try.ntmps17
  go_wp2_with (go_at_call 31; refine (isBinary_in 9 (by omega) (by omega) _).mono ?_; rintro e w' ⟨rfl, rfl⟩)
  go_ret
  exact ⟨rfl, (Below.refl _ _).alloc (Nat.le_refl _) _⟩
theorem rcom9 : RCom 9 9 := by
  intro w
  go_enter Try.func15, Try.ntmps15
  go_wp2
  go_ret
  exact ⟨rfl, rfl⟩

theorem rtext10 : RText 10 10 := by
  intro w
  go_enter Try.func17, Try.ntmps17
  go_wp2_with (go_at_call 31; refine (isBinary_in 10 (by omega) (by omega) _).mono ?_; rintro e w' ⟨rfl, rfl⟩)
  go_ret
  exact ⟨rfl, (Below.refl _ _).alloc (Nat.le_refl _) _⟩
theorem rcom10 : RCom 10 10 := by
  intro w
  go_enter Try.func15, Try.ntmps15
  go_wp2
  go_ret
  exact ⟨rfl, rfl⟩

theorem rtext11 : RText 11 11 := by
  intro w
  go_enter Try.func17, Try.ntmps17
  go_wp2_with (go_at_call 31; refine (isBinary_in 11 (by omega) (by omega) _).mono ?_; rintro e w' ⟨rfl, rfl⟩)
  go_ret
  exact ⟨rfl, (Below.refl _ _).alloc (Nat.le_refl _) _⟩
theorem rcom11 : RCom 11 11 := by
  intro w
  go_enter Try.func15, Try.ntmps15
  go_wp2
  go_ret
  exact ⟨rfl, rfl⟩

theorem rtext12 : RText 12 12 := by
  intro w
  go_enter Try.func17, Try.ntmps17
  go_wp2_with (go_at_call 31; refine (isBinary_in 12 (by omega) (by omega) _).mono ?_; rintro e w' ⟨rfl, rfl⟩)
  go_ret
  exact ⟨rfl, (Below.refl _ _).alloc (Nat.le_refl _) _⟩
theorem rcom12 : RCom 12 12 := by
  intro w
  go_enter Try.func15, Try.ntmps15
  go_wp2
  go_ret
  exact ⟨rfl, rfl⟩

theorem rtext13 : RText 13 13 := by
  intro w
  go_enter Try.func17, Try.ntmps17
  go_wp2_with (go_at_call 31; refine (isBinary_in 13 (by omega) (by omega) _).mono ?_; rintro e w' ⟨rfl, rfl⟩)
  go_ret
  exact ⟨rfl, (Below.refl _ _).alloc (Nat.le_refl _) _⟩
theorem rcom13 : RCom 13 13 := by
  intro w
  go_enter Try.func15, Try.ntmps15
  go_wp2
  go_ret
  exact ⟨rfl, rfl⟩

theorem rtext14 : RText 14 14 := by
  intro w
  go_enter Try.func17, Try.ntmps17
  go_wp2_with (go_at_call 31; refine (isBinary_in 14 (by omega) (by omega) _).mono ?_; rintro e w' ⟨rfl, rfl⟩)
  go_ret
  exact ⟨rfl, (Below.refl _ _).alloc (Nat.le_refl _) _⟩
theorem rcom14 : RCom 14 14 := by
  intro w
  go_enter Try.func15, Try.ntmps15
  go_wp2
  go_ret
  exact ⟨rfl, rfl⟩

theorem rtext15 : RText 15 15 := by
  intro w
  go_enter Try.func17, Try.ntmps17
  go_wp2_with (go_at_call 31; refine (isBinary_in 15 (by omega) (by omega) _).mono ?_; rintro e w' ⟨rfl, rfl⟩)
  go_ret
  exact ⟨rfl, (Below.refl _ _).alloc (Nat.le_refl _) _⟩
theorem rcom15 : RCom 15 15 := by
  intro w
  go_enter Try.func15, Try.ntmps15
  go_wp2
  go_ret
  exact ⟨rfl, rfl⟩

theorem rtext16 : RText 16 16 := by
  intro w
  go_enter Try.func17, Try.ntmps17
  go_wp2_with (go_at_call 31; refine (isBinary_in 16 (by omega) (by omega) _).mono ?_; rintro e w' ⟨rfl, rfl⟩)
  go_ret
  exact ⟨rfl, (Below.refl _ _).alloc (Nat.le_refl _) _⟩
theorem rcom16 : RCom 16 16 := by
  intro w
  go_enter Try.func15, Try.ntmps15
  go_wp2
  go_ret
  exact ⟨rfl, rfl⟩

theorem rtext17 : RText 17 17 := by
  intro w
  go_enter Try.func17, Try.ntmps17
  go_wp2_with (go_at_call 31; refine (isBinary_in 17 (by omega) (by omega) _).mono ?_; rintro e w' ⟨rfl, rfl⟩)
  go_ret
  exact ⟨rfl, (Below.refl _ _).alloc (Nat.le_refl _) _⟩
theorem rcom17 : RCom 17 17 := by
  intro w
  go_enter Try.func15, Try.ntmps15
  go_wp2
  go_ret
  exact ⟨rfl, rfl⟩

theorem rtext18 : RText 18 18 := by
  intro w
  go_enter Try.func17, Try.ntmps17
  go_wp2_with (go_at_call 31; refine (isBinary_in 18 (by omega) (by omega) _).mono ?_; rintro e w' ⟨rfl, rfl⟩)
  go_ret
  exact ⟨rfl, (Below.refl _ _).alloc (Nat.le_refl _) _⟩
theorem rcom18 : RCom 18 18 := by
  intro w
  go_enter Try.func15, Try.ntmps15
  go_wp2
  go_ret
  exact ⟨rfl, rfl⟩

theorem rtext19 : RText 19 19 := by
  intro w
  go_enter Try.func17, Try.ntmps17
  go_wp2_with (go_at_call 31; refine (isBinary_in 19 (by omega) (by omega) _).mono ?_; rintro e w' ⟨rfl, rfl⟩)
  go_ret
  exact ⟨rfl, (Below.refl _ _).alloc (Nat.le_refl _) _⟩
theorem rcom19 : RCom 19 19 := by
  intro w
  go_enter Try.func15, Try.ntmps15
  go_wp2
  go_ret
  exact ⟨rfl, rfl⟩

theorem rtext_in : ∀ i, i < 20 → RText i (i : Int) := (below_succ (below_succ (below_succ (below_succ (below_succ (below_succ (below_succ (below_succ (below_succ (below_succ (below_succ (below_succ (below_succ (below_succ (below_succ (below_succ (below_succ (below_succ (below_succ (below_succ below_zero rtext0) rtext1) rtext2) rtext3) rtext4) rtext5) rtext6) rtext7) rtext8) rtext9) rtext10) rtext11) rtext12) rtext13) rtext14) rtext15) rtext16) rtext17) rtext18) rtext19)
theorem rcom_in : ∀ i, i < 20 → RCom i (i : Int) := (below_succ (below_succ (below_succ (below_succ (below_succ (below_succ (below_succ (below_succ (below_succ (below_succ (below_succ (below_succ (below_succ (below_succ (below_succ (below_succ (below_succ (below_succ (below_succ (below_succ below_zero rcom0) rcom1) rcom2) rcom3) rcom4) rcom5) rcom6) rcom7) rcom8) rcom9) rcom10) rcom11) rcom12) rcom13) rcom14) rcom15) rcom16) rcom17) rcom18) rcom19)

/-! The law of unary operators -/

theorem unary_law0 (A : BitVec 32) (w : World) : Calls Try.prog 4 #[.int .i64 0, .int .i32 (sI A)] w fun e w' => e = .returned (.bool true) ∧ Below w.heap.size w w' := by
  have t1 := beq_of (rfl : unF 0 A = unF 0 A)
  go_enter Try.func4, Try.ntmps4
  go_wp2_with fail
  refine (un0 A _).mono ?_
  rintro e w1 ⟨rfl, h1⟩
  go_wp2_with fail
  refine (runary0 A _).mono ?_
  rintro e w2 ⟨rfl, rfl⟩
  go_wp2_with fail
  refine (textU0 _).mono ?_
  rintro e w3 ⟨rfl, h3⟩
  go_wp2_with fail
  refine (rtextU0 _).mono ?_
  rintro e w4 ⟨rfl, h4⟩
  go_wp2_with fail
  refine (awake_ _).mono ?_
  rintro e w5 ⟨rfl, h5⟩
  go_wp2
  go_ret
  exact ⟨rfl, seq (seq (seq h1 h3) h4) h5⟩

theorem unary_law1 (A : BitVec 32) (w : World) : Calls Try.prog 4 #[.int .i64 1, .int .i32 (sI A)] w fun e w' => e = .returned (.bool true) ∧ Below w.heap.size w w' := by
  have t1 := beq_of (rfl : unF 1 A = unF 1 A)
  go_enter Try.func4, Try.ntmps4
  go_wp2_with fail
  refine (un1 A _).mono ?_
  rintro e w1 ⟨rfl, h1⟩
  go_wp2_with fail
  refine (runary1 A _).mono ?_
  rintro e w2 ⟨rfl, rfl⟩
  go_wp2_with fail
  refine (textU1 _).mono ?_
  rintro e w3 ⟨rfl, h3⟩
  go_wp2_with fail
  refine (rtextU1 _).mono ?_
  rintro e w4 ⟨rfl, h4⟩
  go_wp2_with fail
  refine (awake_ _).mono ?_
  rintro e w5 ⟨rfl, h5⟩
  go_wp2
  go_ret
  exact ⟨rfl, seq (seq (seq h1 h3) h4) h5⟩

theorem unary_law2 (A : BitVec 32) (w : World) : Calls Try.prog 4 #[.int .i64 2, .int .i32 (sI A)] w fun e w' => e = .returned (.bool true) ∧ Below w.heap.size w w' := by
  have t1 := beq_of (rfl : unF 2 A = unF 2 A)
  go_enter Try.func4, Try.ntmps4
  go_wp2_with fail
  refine (un2 A _).mono ?_
  rintro e w1 ⟨rfl, h1⟩
  go_wp2_with fail
  refine (runary2 A _).mono ?_
  rintro e w2 ⟨rfl, rfl⟩
  go_wp2_with fail
  refine (textU2 _).mono ?_
  rintro e w3 ⟨rfl, h3⟩
  go_wp2_with fail
  refine (rtextU2 _).mono ?_
  rintro e w4 ⟨rfl, h4⟩
  go_wp2_with fail
  refine (awake_ _).mono ?_
  rintro e w5 ⟨rfl, h5⟩
  go_wp2
  go_ret
  exact ⟨rfl, seq (seq (seq h1 h3) h4) h5⟩

theorem unary_law_out (o : Int) (h : o < 0 ∨ 3 ≤ o) (x : Int) (w : World) : Calls Try.prog 4 #[.int .i64 o, .int .i32 x] w fun e w' => e = .returned (.bool true) ∧ Below w.heap.size w w' := by
  go_enter Try.func4, Try.ntmps4
  go_wp2_with fail
  refine (un_out o h x _).mono ?_
  rintro e w1 ⟨rfl, h1⟩
  go_wp2_with fail
  refine (runary_out o h x _).mono ?_
  rintro e w2 ⟨rfl, rfl⟩
  go_wp2_with fail
  refine (textU_out o h _).mono ?_
  rintro e w3 ⟨rfl, h3⟩
  go_wp2_with fail
  refine (rtextU_out o h _).mono ?_
  rintro e w4 ⟨rfl, h4⟩
  go_wp2_with fail
  refine (awake_ _).mono ?_
  rintro e w5 ⟨rfl, h5⟩
  go_wp2
  go_ret
  exact ⟨rfl, seq (seq (seq h1 h3) h4) h5⟩
theorem unary_walk (o : Int) (A : BitVec 32) (w : World) : Calls Try.prog 4 #[.int .i64 o, .int .i32 (sI A)] w fun e w' => e = .returned (.bool true) ∧ Below w.heap.size w w' := by
  by_cases h : o < 0 ∨ 3 ≤ o
  · exact unary_law_out o h _ w
  · have h3 : o = 0 ∨ o = 1 ∨ o = 2 := by omega
    rcases h3 with rfl | rfl | rfl
    · exact unary_law0 A w
    · exact unary_law1 A w
    · exact unary_law2 A w
end Go.Proofs.Ytdlfgfghjdobjaa.Num
