import Derived.Test.YtbkhnilbgocpnaaGreatDoorV24
set_option linter.unusedVariables false
set_option linter.unusedSimpArgs false
namespace Go.Proofs.YtbkhnilbgocpnaaGreatDoor.SynC
open Go.Proofs.YtbkhnilbgocpnaaGreatDoor.LexC
open Go Go.ChangeShapes Go.WideShapes Go.ChangeAt Go.RowKit Go.Deep

theorem progM_ok {s : List UInt8} {q : Pg} {i : Int} (h : (q, i, 0) = progM s) : validP q = true ∧ i = 0 := by
  unfold progM at h
  simp only at h
  split at h
  · simp at h
  · rename_i hc
    simp only [Bool.and_eq_true, beq_iff_eq, Bool.not_eq_true', not_and, Bool.not_eq_false] at hc
    have h1 := hc (by rw [← h])
    rw [← h] at h1
    exact ⟨h1, (parseM_ok h).2.1⟩
theorem progM_err {s : List UInt8} {q : Pg} {i er : Int} (h : (q, i, er) = progM s) (he : er ≠ 0) : q = ⟨[], []⟩ := by
  unfold progM at h
  simp only at h
  split at h
  · simp only [Prod.mk.injEq] at h; exact h.1
  · unfold parseM at h
    split at h
    · simp only [Prod.mk.injEq] at h; exact h.1
    · split at h
      · simp only [Prod.mk.injEq] at h; exact h.1
      · unfold outM at h
        split at h
        · simp only [Prod.mk.injEq] at h; exact absurd h.2.2 he
        · simp only [Prod.mk.injEq] at h; exact h.1
theorem keys_good {q : Pg} (h : fitP q = true) : GoodKs (q.its.flatMap (tI dgL)) := goodKs_flat fun i hi => good_I i (by rw [← nm_eq]; exact fitP_ok h i hi)
theorem back_prog {q : Pg} (h : validP q = true) : progM (writ q) = (q, 0, 0) := by
  have hv := h
  unfold validP at h
  rw [Bool.and_eq_true, decide_eq_true_eq] at h
  obtain ⟨M, hM, hk⟩ := txt_back (keys_good h.1)
  have hp : parseM (⟨[], []⟩ : Pg) progR (writ q) = (q, 0, 0) := by
    unfold parseM
    rw [if_neg (by omega), show sc (writ q) 0 = (M, none) from hM]
    simp only
    unfold outM
    rw [show M.map SynC.key = _ from hk]
    unfold progR
    rw [back_pg dgL q (fitP_ok h.1)]
    have : whole ((Res.ok q.its [] : Res (List It)).bind fun l r => .ok (pg l) r) = .ok q [] := by
      show whole (.ok (pg q.its) []) = _
      rw [pg_its]; rfl
    rw [this]
  unfold progM
  simp only
  rw [hp]
  simp [hv]
theorem valid_len {q : Pg} (h : validP q = true) : (writ q).length ≤ 4000 := by
  unfold validP at h
  rw [Bool.and_eq_true, decide_eq_true_eq] at h
  exact h.2
theorem textP_ok {q : Pg} (h : validP q = true) : textP q = (writ q, 0) := by unfold textP; rw [h]; rfl
theorem text_good (q : Pg) (hv : validP q = true) (w : World) (A : Option Addr) (m c : Nat) (B : Option Addr) (mb cb : Nat) (hG : Gl w) (hp : PgIn w A m c B mb cb q) :
    Calls Tryz.prog 22 #[.agg #[.slice A m c, .slice B mb cb]] w fun e w' => e = .returned (.tuple #[.string (bs (writ q)), .int .i64 0]) ∧ Below w.heap.size w w' := by
  have := text_any q w A m c B mb cb hG hp
  rw [textP_ok hv] at this
  exact this
theorem parse_back (q : Pg) (hv : validP q = true) (w : World) (hG : Gl w) :
    Calls Tryz.prog 15 #[.string (bs (writ q))] w fun e w' => (∃ A m c B mb cb, e = .returned (.tuple #[.agg #[.slice A m c, .slice B mb cb], .int .i64 0, .int .i64 0]) ∧ PgIn w' A m c B mb cb q) ∧ Below w.heap.size w w' :=
  prog_ex (bs (writ q)) (by rw [bs_size]; have := valid_len hv; unfold maxLen; omega) q 0 0 (by rw [bs_toList]; exact back_prog hv) w hG
theorem valid_good (q : Pg) (hv : validP q = true) (w : World) (A : Option Addr) (m c : Nat) (B : Option Addr) (mb cb : Nat) (hG : Gl w) (hp : PgIn w A m c B mb cb q) :
    Calls Tryz.prog 26 #[.agg #[.slice A m c, .slice B mb cb]] w fun e w' => e = .returned (.bool true) ∧ Below w.heap.size w w' := by
  have := valid_any q w A m c B mb cb hG hp
  rw [hv] at this
  exact this

end Go.Proofs.YtbkhnilbgocpnaaGreatDoor.SynC
