import Derived.Test.YtdlfgfghjdobjaaAwake
import Derived.Test.YtdlfgfghjdobjaaAlg
/- P1.2: what the law of division does. -/
namespace Go.Proofs.Ytdlfgfghjdobjaa.Num
open Go.ChangeShapes Go.WideShapes Go.ChangeAt Go.RowKit

set_option maxRecDepth 100000 in
theorem divides_walk (A B : BitVec 32) (w : World) : Calls Try.prog 7 #[.int .i32 (sI A), .int .i32 (sI B)] w fun e w' => e = .returned (.bool true) ∧ Below w.heap.size w w' := by
  by_cases h : B = 0#32
  · have t1 : (sI B == 0) = true := by rw [h]; decide
    have t2 : (sI (binF 3 A B) == 0) = true := by rw [h]; simp only [binF, if_true]; decide
    have t3 : (sI (binF 4 A B) == 0) = true := by rw [h]; simp only [binF, if_true]; decide
    clear h
    go_enter Try.func7, Try.ntmps7
    go_wp2_with fail
    refine (do_at 3 (by omega) A B _ rfl _ _ rfl rfl _).mono ?_
    rintro e w1 ⟨rfl, h1⟩
    go_wp2_with fail
    refine (do_at 4 (by omega) A B _ rfl _ _ rfl rfl _).mono ?_
    rintro e w2 ⟨rfl, h2⟩
    go_wp2_with fail
    refine (awake_ _).mono ?_
    rintro e w3 ⟨rfl, h3⟩
    go_wp2
    go_ret
    exact ⟨rfl, seq (seq h1 h2) h3⟩
  · have t1 : (sI B == 0) = false := by
      rw [beq_eq_false_iff_ne]; intro e; exact h (sI_inj (e.trans (by decide)))
    have n1 : ¬ sI B = 0 := by simpa using t1
    have t2 := beq_of (quo_rem A B h)
    have t3 := rem_sign A B h
    have t4 := rem_small A B h
    have b1 := sI_lo B
    have b2 := sI_hi B
    have a1 := sI_lo (binF 4 A B)
    have a2 := sI_hi (binF 4 A B)
    have D3 := do_at 3 (by omega) A B 3 rfl _ _ rfl rfl
    have D4 := do_at 4 (by omega) A B 4 rfl _ _ rfl rfl
    revert t2 t3 t4 a1 a2 D3 D4
    generalize binF 4 A B = R
    generalize binF 3 A B = Q
    intro t2 t3 t4 a1 a2 D3 D4
    have D2 := do_at 2 (by omega) Q B 2 rfl _ _ rfl rfl
    have D0 := do_at 0 (by omega) (binF 2 Q B) R 0 rfl _ _ rfl rfl
    have E2 := Lib.hid D2
    have E0 := Lib.hid D0
    have E3 := Lib.hid D3
    have E4 := Lib.hid D4
    clear D0 D2 D3 D4 h
    obtain ⟨t5, t6⟩ := t4
    rcases Int.lt_or_lt_of_ne n1 with hb | hb
    · obtain ⟨t9, t10⟩ := t6 hb
      clear t5 t6
      rcases t3 with hr | ⟨hr, ha⟩ | ⟨hr, ha⟩
      · have r1 : (sI R == 0) = true := by rw [hr]; rfl
        have r2 : ¬ sI R < 0 := by omega
        clear hr
        go_enter Try.func7, Try.ntmps7
        go_wp2_with fail
        refine (E3.out _).mono ?_
        rintro e w1 ⟨rfl, h1⟩
        go_wp2_with fail
        refine (E4.out _).mono ?_
        rintro e w2 ⟨rfl, h2⟩
        go_wp2_with fail
        refine (E2.out _).mono ?_
        rintro e w3 ⟨rfl, h3⟩
        go_wp2_with fail
        refine (E0.out _).mono ?_
        rintro e w4 ⟨rfl, h4⟩
        go_wp2_with fail
        refine (awake_ _).mono ?_
        rintro e w5 ⟨rfl, h5⟩
        go_wp2
        go_ret
        exact ⟨rfl, seq (seq (seq (seq h1 h2) h3) h4) h5⟩
      · have r1 : (sI R == 0) = false := by rw [beq_eq_false_iff_ne]; omega
        go_enter Try.func7, Try.ntmps7
        go_wp2_with fail
        refine (E3.out _).mono ?_
        rintro e w1 ⟨rfl, h1⟩
        go_wp2_with fail
        refine (E4.out _).mono ?_
        rintro e w2 ⟨rfl, h2⟩
        go_wp2_with fail
        refine (E2.out _).mono ?_
        rintro e w3 ⟨rfl, h3⟩
        go_wp2_with fail
        refine (E0.out _).mono ?_
        rintro e w4 ⟨rfl, h4⟩
        go_wp2_with fail
        refine (awake_ _).mono ?_
        rintro e w5 ⟨rfl, h5⟩
        go_wp2
        go_ret
        exact ⟨rfl, seq (seq (seq (seq h1 h2) h3) h4) h5⟩
      · have r1 : (sI R == 0) = false := by rw [beq_eq_false_iff_ne]; omega
        have r2 : ¬ sI R < 0 := by omega
        have r3 : ¬ sI A < 0 := by omega
        go_enter Try.func7, Try.ntmps7
        go_wp2_with fail
        refine (E3.out _).mono ?_
        rintro e w1 ⟨rfl, h1⟩
        go_wp2_with fail
        refine (E4.out _).mono ?_
        rintro e w2 ⟨rfl, h2⟩
        go_wp2_with fail
        refine (E2.out _).mono ?_
        rintro e w3 ⟨rfl, h3⟩
        go_wp2_with fail
        refine (E0.out _).mono ?_
        rintro e w4 ⟨rfl, h4⟩
        go_wp2_with fail
        refine (awake_ _).mono ?_
        rintro e w5 ⟨rfl, h5⟩
        go_wp2
        go_ret
        exact ⟨rfl, seq (seq (seq (seq h1 h2) h3) h4) h5⟩
    · obtain ⟨t9, t10⟩ := t5 hb
      clear t5 t6
      have t8 : ¬ sI B < 0 := Int.not_lt.2 (Int.le_of_lt hb)
      rcases t3 with hr | ⟨hr, ha⟩ | ⟨hr, ha⟩
      · have r1 : (sI R == 0) = true := by rw [hr]; rfl
        have r2 : ¬ sI R < 0 := by omega
        clear hr
        go_enter Try.func7, Try.ntmps7
        go_wp2_with fail
        refine (E3.out _).mono ?_
        rintro e w1 ⟨rfl, h1⟩
        go_wp2_with fail
        refine (E4.out _).mono ?_
        rintro e w2 ⟨rfl, h2⟩
        go_wp2_with fail
        refine (E2.out _).mono ?_
        rintro e w3 ⟨rfl, h3⟩
        go_wp2_with fail
        refine (E0.out _).mono ?_
        rintro e w4 ⟨rfl, h4⟩
        go_wp2_with fail
        refine (awake_ _).mono ?_
        rintro e w5 ⟨rfl, h5⟩
        go_wp2
        go_ret
        exact ⟨rfl, seq (seq (seq (seq h1 h2) h3) h4) h5⟩
      · have r1 : (sI R == 0) = false := by rw [beq_eq_false_iff_ne]; omega
        go_enter Try.func7, Try.ntmps7
        go_wp2_with fail
        refine (E3.out _).mono ?_
        rintro e w1 ⟨rfl, h1⟩
        go_wp2_with fail
        refine (E4.out _).mono ?_
        rintro e w2 ⟨rfl, h2⟩
        go_wp2_with fail
        refine (E2.out _).mono ?_
        rintro e w3 ⟨rfl, h3⟩
        go_wp2_with fail
        refine (E0.out _).mono ?_
        rintro e w4 ⟨rfl, h4⟩
        go_wp2_with fail
        refine (awake_ _).mono ?_
        rintro e w5 ⟨rfl, h5⟩
        go_wp2
        go_ret
        exact ⟨rfl, seq (seq (seq (seq h1 h2) h3) h4) h5⟩
      · have r1 : (sI R == 0) = false := by rw [beq_eq_false_iff_ne]; omega
        have r2 : ¬ sI R < 0 := by omega
        have r3 : ¬ sI A < 0 := by omega
        go_enter Try.func7, Try.ntmps7
        go_wp2_with fail
        refine (E3.out _).mono ?_
        rintro e w1 ⟨rfl, h1⟩
        go_wp2_with fail
        refine (E4.out _).mono ?_
        rintro e w2 ⟨rfl, h2⟩
        go_wp2_with fail
        refine (E2.out _).mono ?_
        rintro e w3 ⟨rfl, h3⟩
        go_wp2_with fail
        refine (E0.out _).mono ?_
        rintro e w4 ⟨rfl, h4⟩
        go_wp2_with fail
        refine (awake_ _).mono ?_
        rintro e w5 ⟨rfl, h5⟩
        go_wp2
        go_ret
        exact ⟨rfl, seq (seq (seq (seq h1 h2) h3) h4) h5⟩
end Go.Proofs.Ytdlfgfghjdobjaa.Num
