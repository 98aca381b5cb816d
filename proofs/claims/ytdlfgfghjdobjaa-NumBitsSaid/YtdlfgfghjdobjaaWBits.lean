import Derived.Test.YtdlfgfghjdobjaaAwake
import Derived.Test.YtdlfgfghjdobjaaAlg
/- P1.3: the walk of the law of bits. -/
namespace Go.Proofs.Ytdlfgfghjdobjaa.Num
open Go.ChangeShapes Go.WideShapes Go.ChangeAt Go.RowKit

/-- The word -1, behind a name. -/
def ones : BitVec 32 := BitVec.allOnes 32
theorem bits_back1 (A B : BitVec 32) : binF 10 (binF 8 A B) B = binF 5 A (binF 10 ones B) := bits_back A B

set_option maxRecDepth 100000 in
theorem bits_walk (A B : BitVec 32) (w : World) : Calls Try.prog 8 #[.int .i32 (sI A), .int .i32 (sI B)] w fun e w' => e = .returned (.bool true) ∧ Below w.heap.size w w' := by
  have t1 := bne_of (bits_not A)
  have t2 := bne_of (bits_and A B)
  have t3 := bne_of (bits_or A B)
  have t4 : (sI (binF 7 A A) != 0) = false := by rw [bits_self]; decide
  have t5 := bne_of (bits_xor A B)
  have t6 := bne_of (bits_double A)
  have t7 := beq_of (bits_back1 A B)
  have t8 := beq_of (bits_again A B)
  go_enter Try.func8, Try.ntmps8
  go_wp2_with fail
  refine (one1 (A) _).mono ?_
  rintro e w1 ⟨rfl, h1⟩
  go_wp2_with fail
  refine (one0 (A) _).mono ?_
  rintro e w2 ⟨rfl, h2⟩
  go_wp2_with fail
  refine (do_at 1 (by omega) (unF 0 A) (1#32) _ rfl _ _ rfl (by decide) _).mono ?_
  rintro e w3 ⟨rfl, h3⟩
  go_wp2_with fail
  refine (do_at 5 (by omega) (A) (B) _ rfl _ _ rfl rfl _).mono ?_
  rintro e w4 ⟨rfl, h4⟩
  go_wp2_with fail
  refine (one1 (binF 5 A B) _).mono ?_
  rintro e w5 ⟨rfl, h5⟩
  go_wp2_with fail
  refine (one1 (A) _).mono ?_
  rintro e w6 ⟨rfl, h6⟩
  go_wp2_with fail
  refine (one1 (B) _).mono ?_
  rintro e w7 ⟨rfl, h7⟩
  go_wp2_with fail
  refine (do_at 6 (by omega) (unF 1 A) (unF 1 B) _ rfl _ _ rfl rfl _).mono ?_
  rintro e w8 ⟨rfl, h8⟩
  go_wp2_with fail
  refine (do_at 6 (by omega) (A) (B) _ rfl _ _ rfl rfl _).mono ?_
  rintro e w9 ⟨rfl, h9⟩
  go_wp2_with fail
  refine (one1 (binF 6 A B) _).mono ?_
  rintro e w10 ⟨rfl, h10⟩
  go_wp2_with fail
  refine (one1 (A) _).mono ?_
  rintro e w11 ⟨rfl, h11⟩
  go_wp2_with fail
  refine (one1 (B) _).mono ?_
  rintro e w12 ⟨rfl, h12⟩
  go_wp2_with fail
  refine (do_at 5 (by omega) (unF 1 A) (unF 1 B) _ rfl _ _ rfl rfl _).mono ?_
  rintro e w13 ⟨rfl, h13⟩
  go_wp2_with fail
  refine (do_at 7 (by omega) (A) (A) _ rfl _ _ rfl rfl _).mono ?_
  rintro e w14 ⟨rfl, h14⟩
  go_wp2_with fail
  refine (do_at 7 (by omega) (A) (B) _ rfl _ _ rfl rfl _).mono ?_
  rintro e w15 ⟨rfl, h15⟩
  go_wp2_with fail
  refine (do_at 6 (by omega) (A) (B) _ rfl _ _ rfl rfl _).mono ?_
  rintro e w16 ⟨rfl, h16⟩
  go_wp2_with fail
  refine (do_at 5 (by omega) (A) (B) _ rfl _ _ rfl rfl _).mono ?_
  rintro e w17 ⟨rfl, h17⟩
  go_wp2_with fail
  refine (do_at 1 (by omega) (binF 6 A B) (binF 5 A B) _ rfl _ _ rfl rfl _).mono ?_
  rintro e w18 ⟨rfl, h18⟩
  go_wp2_with fail
  refine (do_at 8 (by omega) (A) (1#32) _ rfl _ _ rfl (by decide) _).mono ?_
  rintro e w19 ⟨rfl, h19⟩
  go_wp2_with fail
  refine (do_at 2 (by omega) (A) (2#32) _ rfl _ _ rfl (by decide) _).mono ?_
  rintro e w20 ⟨rfl, h20⟩
  go_wp2_with fail
  refine (do_at 8 (by omega) (A) (B) _ rfl _ _ rfl rfl _).mono ?_
  rintro e w21 ⟨rfl, h21⟩
  go_wp2_with fail
  refine (do_at 10 (by omega) (ones) (B) _ rfl _ _ (by decide) rfl _).mono ?_
  rintro e w22 ⟨rfl, h22⟩
  go_wp2_with fail
  refine (do_at 10 (by omega) (binF 8 A B) (B) _ rfl _ _ rfl rfl _).mono ?_
  rintro e w23 ⟨rfl, h23⟩
  go_wp2_with fail
  refine (do_at 5 (by omega) (A) (binF 10 ones B) _ rfl _ _ rfl rfl _).mono ?_
  rintro e w24 ⟨rfl, h24⟩
  go_wp2_with fail
  refine (do_at 0 (by omega) (B) (32#32) _ rfl _ _ rfl (by decide) _).mono ?_
  rintro e w25 ⟨rfl, h25⟩
  go_wp2_with fail
  refine (do_at 8 (by omega) (A) (binF 0 B 32#32) _ rfl _ _ rfl rfl _).mono ?_
  rintro e w26 ⟨rfl, h26⟩
  go_wp2_with fail
  refine (awake_ _).mono ?_
  rintro e w27 ⟨rfl, h27⟩
  go_wp2
  go_ret
  exact ⟨rfl, (seq (seq (seq (seq (seq (seq (seq (seq (seq (seq (seq (seq (seq (seq (seq (seq (seq (seq (seq (seq (seq (seq (seq (seq (seq (seq h1 h2) h3) h4) h5) h6) h7) h8) h9) h10) h11) h12) h13) h14) h15) h16) h17) h18) h19) h20) h21) h22) h23) h24) h25) h26) h27)⟩
end Go.Proofs.Ytdlfgfghjdobjaa.Num
