import Derived.Test.YtbkhnilbgocpnaaGreatDoorM27
set_option linter.unusedVariables false
set_option linter.unusedSimpArgs false
/- The walk of the law of texts that are parsed again. -/
namespace Go.Proofs.YtbkhnilbgocpnaaGreatDoor.SynC
open Go.Proofs.YtbkhnilbgocpnaaGreatDoor.LexC
open Go Go.ChangeShapes Go.WideShapes Go.ChangeAt Go.RowKit Go.Deep

theorem progM_ok {s : List UInt8} {q : Pg} {i : Int} (h : (q, i, 0) = progM s) : validP q = true ∧ i = 0 := by
  unfold progM at h
  simp only at h
  split at h
  · simp at h
  · rename_i hc
    simp only [Bool.and_eq_true, beq_iff_eq, Bool.not_eq_true', not_and, Bool.not_eq_false] at hc
    have h1 := hc (by rw [← h])
    rw [← h] at h1
    exact ⟨h1, (parseM_ok h).2.1⟩
theorem progM_err {s : List UInt8} {q : Pg} {i er : Int} (h : (q, i, er) = progM s) (he : er ≠ 0) : q = ⟨[], []⟩ := by
  unfold progM at h
  simp only at h
  split at h
  · simp only [Prod.mk.injEq] at h; exact h.1
  · unfold parseM at h
    split at h
    · simp only [Prod.mk.injEq] at h; exact h.1
    · split at h
      · simp only [Prod.mk.injEq] at h; exact h.1
      · unfold outM at h
        split at h
        · simp only [Prod.mk.injEq] at h; exact absurd h.2.2 he
        · simp only [Prod.mk.injEq] at h; exact h.1
theorem keys_good {q : Pg} (h : fitP q = true) : GoodKs (q.its.flatMap (tI dgL)) := goodKs_flat fun i hi => good_I i (by rw [← nm_eq]; exact fitP_ok h i hi)
theorem back_prog {q : Pg} (h : validP q = true) : progM (writ q) = (q, 0, 0) := by
  have hv := h
  unfold validP at h
  rw [Bool.and_eq_true, decide_eq_true_eq] at h
  obtain ⟨M, hM, hk⟩ := txt_back (keys_good h.1)
  have hp : parseM (⟨[], []⟩ : Pg) progR (writ q) = (q, 0, 0) := by
    unfold parseM
    rw [if_neg (by omega), show sc (writ q) 0 = (M, none) from hM]
    simp only
    unfold outM
    rw [show M.map SynC.key = _ from hk]
    unfold progR
    rw [back_pg dgL q (fitP_ok h.1)]
    have : whole ((Res.ok q.its [] : Res (List It)).bind fun l r => .ok (pg l) r) = .ok q [] := by
      show whole (.ok (pg q.its) []) = _
      rw [pg_its]; rfl
    rw [this]
  unfold progM
  simp only
  rw [hp]
  simp [hv]
theorem valid_len {q : Pg} (h : validP q = true) : (writ q).length ≤ 4000 := by
  unfold validP at h
  rw [Bool.and_eq_true, decide_eq_true_eq] at h
  exact h.2
theorem textP_ok {q : Pg} (h : validP q = true) : textP q = (writ q, 0) := by unfold textP; rw [h]; rfl
theorem text_good (q : Pg) (hv : validP q = true) (w : World) (A : Option Addr) (m c : Nat) (B : Option Addr) (mb cb : Nat) (hG : Gl w) (hp : PgIn w A m c B mb cb q) :
    Calls Tryz.prog 22 #[.agg #[.slice A m c, .slice B mb cb]] w fun e w' => e = .returned (.tuple #[.string (bs (writ q)), .int .i64 0]) ∧ Below w.heap.size w w' := by
  have := text_any q w A m c B mb cb hG hp
  rw [textP_ok hv] at this
  exact this
theorem parse_back (q : Pg) (hv : validP q = true) (w : World) (hG : Gl w) :
    Calls Tryz.prog 15 #[.string (bs (writ q))] w fun e w' => (∃ A m c B mb cb, e = .returned (.tuple #[.agg #[.slice A m c, .slice B mb cb], .int .i64 0, .int .i64 0]) ∧ PgIn w' A m c B mb cb q) ∧ Below w.heap.size w w' :=
  prog_ex (bs (writ q)) (by rw [bs_size]; have := valid_len hv; unfold maxLen; omega) q 0 0 (by rw [bs_toList]; exact back_prog hv) w hG
theorem valid_good (q : Pg) (hv : validP q = true) (w : World) (A : Option Addr) (m c : Nat) (B : Option Addr) (mb cb : Nat) (hG : Gl w) (hp : PgIn w A m c B mb cb q) :
    Calls Tryz.prog 26 #[.agg #[.slice A m c, .slice B mb cb]] w fun e w' => e = .returned (.bool true) ∧ Below w.heap.size w w' := by
  have := valid_any q w A m c B mb cb hG hp
  rw [hv] at this
  exact this

set_option maxRecDepth 100000 in
set_option maxHeartbeats 2000000 in
theorem again_walk (s : ByteArray) (hs : s.size ≤ maxLen) (w : World) (hG : Gl w) : Calls Tryz.prog 8 #[.string s] w fun e w' => e = .returned (.bool true) ∧ Below w.heap.size w w' := by
  have HG := Lib.hid hG
  clear hG
  have hs2 := hs
  unfold maxLen at hs
  by_cases h6 : 6000 < s.size
  · go_enter Tryz.func8, Tryz.ntmps8
    go_wp2_with fail
    refine (awake_any _ HG.out).mono ?_
    rintro e w1 ⟨rfl, hb1⟩
    go_wp2
    go_ret
    exact ⟨rfl, hb1⟩
  have hd : decide ((6000 : Int) < s.size) = false := by simp; omega
  have hP := parse_15 s hs2 w HG.out
  have HP := Lib.hid hP
  clear hP
  go_enter Tryz.func8, Tryz.ntmps8
  go_wp2_with fail
  refine HP.out.mono ?_
  rintro e w1 ⟨hb1, A, m, c, B, mb, cb, q, i, er, rfl, hp, hx⟩
  have HB1 := Lib.hid hb1
  have HPI := Lib.hid hp
  clear hb1 hp
  by_cases h0 : er = 0
  · subst h0
    obtain ⟨hv, -⟩ := progM_ok hx
    have HV := Lib.hid hv
    clear hx hv
    go_wp2_with fail
    refine (text_good q HV.out _ A m c B mb cb ((HG.out.bel HB1.out).alloc _) (HPI.out.below (bel_al _ _))).mono ?_
    rintro e w2 ⟨rfl, hb2⟩
    obtain ⟨_, _, _, l1⟩ := loc_keep (q := w1.heap.size) (gb_below hb2 (some (w1.heap.size + 10))) (heap_alloc_new _ _) (by omega)
    have HW2 := Lib.hid (seq (bel_al w1 (.cells #[.slice A m c, .slice B mb cb] 26)) hb2)
    clear hb2
    go_wp2_with fail
    refine (parse_back q HV.out _ (HG.out.bel (seq HB1.out HW2.out))).mono ?_
    rintro e w3 ⟨⟨A2, m2, c2, B2, mb2, cb2, rfl, hp2⟩, hb3⟩
    obtain ⟨_, _, _, l2⟩ := loc_keep (q := w1.heap.size) (gb_below hb3 (some (w1.heap.size + 10))) l1 (by omega)
    have HW3 := Lib.hid (seq HW2.out hb3)
    have HP2 := Lib.hid hp2
    have hz3 := HW3.out.size
    clear hb3 hp2
    go_wp2_with fail
    refine (text_good q HV.out _ A2 m2 c2 B2 mb2 cb2 ((HG.out.bel (seq HB1.out HW3.out)).alloc _) (HP2.out.below (bel_al _ _))).mono ?_
    rintro e w4 ⟨rfl, hb4⟩
    obtain ⟨_, _, _, l3⟩ := loc_keep (q := w1.heap.size) (gb_below hb4 (some (w1.heap.size + 10))) (heap_old (by omega) l2) (by omega)
    obtain ⟨_, _, _, l4⟩ := loc_keep (q := w3.heap.size) (gb_below hb4 (some (w1.heap.size + w3.heap.size + 10))) (heap_alloc_new _ _) (by omega)
    have HW4 := Lib.hid (seq HW3.out (seq (bel_al w3 (.cells #[.slice A2 m2 c2, .slice B2 mb2 cb2] 26)) hb4))
    have HQ4 := Lib.hid (HP2.out.below (seq (bel_al w3 (.cells #[.slice A2 m2 c2, .slice B2 mb2 cb2] 26)) hb4))
    clear hb4
    go_wp2_with fail
    refine (valid_good q HV.out _ A m c B mb cb (HG.out.bel (seq HB1.out HW4.out)) (HPI.out.below HW4.out)).mono ?_
    rintro e w5 ⟨rfl, hb5⟩
    obtain ⟨_, _, _, l5⟩ := loc_keep (q := w1.heap.size) (gb_below hb5 (some (w1.heap.size + 10))) l3 (by omega)
    obtain ⟨_, _, _, l6⟩ := loc_keep (q := w3.heap.size) (gb_below hb5 (some (w1.heap.size + w3.heap.size + 10))) l4 (by omega)
    have HW5 := Lib.hid (seq HW4.out hb5)
    have HQ5 := Lib.hid (HQ4.out.below hb5)
    have e4 : ((bs (writ q)).toList == (bs (writ q)).toList) = true := by simp
    clear hb5
    go_wp2_with fail
    refine (same_17 q _ A m c B mb cb A2 m2 c2 B2 mb2 cb2 (HPI.out.below HW5.out) HQ5.out).mono ?_
    rintro e w6 ⟨rfl, hb6⟩
    have HW6 := Lib.hid (seq HW5.out hb6)
    clear hb6
    go_wp2_with fail
    refine (awake_any _ (HG.out.bel (seq HB1.out HW6.out))).mono ?_
    rintro e w7 ⟨rfl, hb7⟩
    have HW7 := Lib.hid (seq (seq HB1.out HW6.out) hb7)
    clear hb7
    go_wp2
    go_ret
    exact ⟨rfl, HW7.out⟩
  · have he : (er != 0) = true := by simpa using h0
    have hq := progM_err hx h0
    subst hq
    have z1 := HPI.out.f.len
    have z2 := HPI.out.k.len
    simp only [List.length_nil] at z1 z2
    subst z1
    subst z2
    clear hx
    go_wp2_with fail
    refine (awake_any _ ((HG.out.bel HB1.out).alloc _)).mono ?_
    rintro e w2 ⟨rfl, hb2⟩
    have HB2 := Lib.hid (seq (seq HB1.out (bel_al _ _)) hb2)
    clear hb2
    go_wp2
    go_ret
    exact ⟨rfl, HB2.out⟩
end Go.Proofs.YtbkhnilbgocpnaaGreatDoor.SynC
