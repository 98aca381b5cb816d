import Derived.Test.YtdlfgfghjdobjaaAwake
import Derived.Test.YtdlfgfghjdobjaaAlg
/- P1.1: the walk of the law of the ring. -/
namespace Go.Proofs.Ytdlfgfghjdobjaa.Num
open Go.ChangeShapes Go.WideShapes Go.ChangeAt Go.RowKit

set_option maxRecDepth 100000 in
theorem ring_walk (A B C : BitVec 32) (w : World) : Calls Try.prog 6 #[.int .i32 (sI A), .int .i32 (sI B), .int .i32 (sI C)] w fun e w' => e = .returned (.bool true) ∧ Below w.heap.size w w' := by
  have t1 := bne_of (ring_add A B)
  have t2 := bne_of (ring_add3 A B C)
  have t3 := bne_of (ring_mul A B)
  have t4 := bne_of (ring_mul3 A B C)
  have t5 := beq_of (ring_over A B C)
  have t6 := beq_of (ring_sub A B)
  have t7 : (sI (binF 0 A (unF 0 A)) == 0) = true := by rw [ring_neg]; decide
  go_enter Try.func6, Try.ntmps6
  go_wp2_with fail
  refine wp_loop_rounds 3 ?_
  rw [rounds_succ]
  go_wp2_with fail
  refine (do_at 0 (by omega) (A) (B) _ rfl _ _ rfl rfl _).mono ?_
  rintro e w1 ⟨rfl, h1⟩
  go_wp2_with fail
  refine (do_at 0 (by omega) (B) (A) _ rfl _ _ rfl rfl _).mono ?_
  rintro e w2 ⟨rfl, h2⟩
  go_wp2_with fail
  refine (do_at 0 (by omega) (A) (B) _ rfl _ _ rfl rfl _).mono ?_
  rintro e w3 ⟨rfl, h3⟩
  go_wp2_with fail
  refine (do_at 0 (by omega) (binF 0 A B) (C) _ rfl _ _ rfl rfl _).mono ?_
  rintro e w4 ⟨rfl, h4⟩
  go_wp2_with fail
  refine (do_at 0 (by omega) (B) (C) _ rfl _ _ rfl rfl _).mono ?_
  rintro e w5 ⟨rfl, h5⟩
  go_wp2_with fail
  refine (do_at 0 (by omega) (A) (binF 0 B C) _ rfl _ _ rfl rfl _).mono ?_
  rintro e w6 ⟨rfl, h6⟩
  have g1 := seq (seq (seq (seq (seq h1 h2) h3) h4) h5) h6
  have c1 := g1.cell (p := ⟨w.heap.size, 1, none⟩) (by simp)
  simp at c1
  clear h1 h2 h3 h4 h5 h6
  go_wp2_with fail
  rw [rounds_succ]
  go_wp2_with fail
  refine (do_at 2 (by omega) (A) (B) _ rfl _ _ rfl rfl _).mono ?_
  rintro e w7 ⟨rfl, h7⟩
  go_wp2_with fail
  refine (do_at 2 (by omega) (B) (A) _ rfl _ _ rfl rfl _).mono ?_
  rintro e w8 ⟨rfl, h8⟩
  go_wp2_with fail
  refine (do_at 2 (by omega) (A) (B) _ rfl _ _ rfl rfl _).mono ?_
  rintro e w9 ⟨rfl, h9⟩
  go_wp2_with fail
  refine (do_at 2 (by omega) (binF 2 A B) (C) _ rfl _ _ rfl rfl _).mono ?_
  rintro e w10 ⟨rfl, h10⟩
  go_wp2_with fail
  refine (do_at 2 (by omega) (B) (C) _ rfl _ _ rfl rfl _).mono ?_
  rintro e w11 ⟨rfl, h11⟩
  go_wp2_with fail
  refine (do_at 2 (by omega) (A) (binF 2 B C) _ rfl _ _ rfl rfl _).mono ?_
  rintro e w12 ⟨rfl, h12⟩
  have g2 := seq g1 (seq (seq (seq (seq (seq h7 h8) h9) h10) h11) h12)
  clear h7 h8 h9 h10 h11 h12
  go_wp2_with fail
  rw [rounds_succ]
  go_wp2_with fail
  refine (do_at 0 (by omega) (B) (C) _ rfl _ _ rfl rfl _).mono ?_
  rintro e w13 ⟨rfl, h13⟩
  go_wp2_with fail
  refine (do_at 2 (by omega) (A) (binF 0 B C) _ rfl _ _ rfl rfl _).mono ?_
  rintro e w14 ⟨rfl, h14⟩
  go_wp2_with fail
  refine (do_at 2 (by omega) (A) (B) _ rfl _ _ rfl rfl _).mono ?_
  rintro e w15 ⟨rfl, h15⟩
  go_wp2_with fail
  refine (do_at 2 (by omega) (A) (C) _ rfl _ _ rfl rfl _).mono ?_
  rintro e w16 ⟨rfl, h16⟩
  go_wp2_with fail
  refine (do_at 0 (by omega) (binF 2 A B) (binF 2 A C) _ rfl _ _ rfl rfl _).mono ?_
  rintro e w17 ⟨rfl, h17⟩
  go_wp2_with fail
  refine (do_at 1 (by omega) (A) (B) _ rfl _ _ rfl rfl _).mono ?_
  rintro e w18 ⟨rfl, h18⟩
  go_wp2_with fail
  refine (one0 B _).mono ?_
  rintro e w19 ⟨rfl, h19⟩
  go_wp2_with fail
  refine (do_at 0 (by omega) (A) (unF 0 B) _ rfl _ _ rfl rfl _).mono ?_
  rintro e w20 ⟨rfl, h20⟩
  go_wp2_with fail
  refine (one0 A _).mono ?_
  rintro e w21 ⟨rfl, h21⟩
  go_wp2_with fail
  refine (do_at 0 (by omega) (A) (unF 0 A) _ rfl _ _ rfl rfl _).mono ?_
  rintro e w22 ⟨rfl, h22⟩
  go_wp2_with fail
  refine (awake_ _).mono ?_
  rintro e w23 ⟨rfl, h23⟩
  go_wp2
  go_ret
  exact ⟨rfl, ((Below.refl _ _).alloc (Nat.le_refl _) _).trans ((seq g2 (seq (seq (seq (seq (seq (seq (seq (seq (seq (seq h13 h14) h15) h16) h17) h18) h19) h20) h21) h22) h23)).mono (by simp))⟩
end Go.Proofs.Ytdlfgfghjdobjaa.Num
