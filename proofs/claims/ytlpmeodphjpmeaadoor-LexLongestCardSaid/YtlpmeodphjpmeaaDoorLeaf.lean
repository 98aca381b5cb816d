import Derived.Test.YtlpmeodphjpmeaaDoorMath
import Derived.Test.YtlpmeodphjpmeaaDoorRows
import Derived.WalkKit
import Derived.ProofKit
import Derived.Below
import Derived.LoopTactic
import Derived.Outline
import Derived.Lib.Hide
import Derived.OpenShut
/- The classes of bytes, lex's and the reference's; lex.count. -/
namespace Go.Proofs.YtlpmeodphjpmeaaDoor.Lex
open Go.ChangeShapes Go.WideShapes Go.ChangeAt Go.RowKit

theorem ret_bool {a b : Bool} (h : a = b) : Ending.returned (.bool a) = .returned (.bool b) := by rw [h]
theorem ret_int {k : IntKind} {a b : Int} (h : a = b) : Ending.returned (.int k a) = .returned (.int k b) := by rw [h]
/-- A call that only computes a bool. -/
def Bl (f : FuncId) (args : Array Value) (b : Bool) : Prop := ∀ w : World, Calls Tryd.prog f args w fun e w' => e = .returned (.bool b) ∧ w = w'

theorem lex_letter (n : Int) : Bl 30 #[.int .u8 n] (letN n) := by
  intro w
  go_enter Tryd.func30, Tryd.ntmps30
  go_wp2
  all_goals
    go_ret
    exact ⟨ret_bool (by rw [Bool.eq_iff_iff]; unfold letN; simp; try omega), rfl⟩
theorem ref_letter (n : Int) : Bl 34 #[.int .u8 n] (letN n) := by
  intro w
  go_enter Tryd.func34, Tryd.ntmps34
  go_wp2
  all_goals
    go_ret
    exact ⟨ret_bool (by rw [Bool.eq_iff_iff]; unfold letN; simp; try omega), rfl⟩
theorem lex_digit (n : Int) : Bl 36 #[.int .u8 n] (digN n) := by
  intro w
  go_enter Tryd.func36, Tryd.ntmps36
  go_wp2
  all_goals
    go_ret
    exact ⟨ret_bool (by rw [Bool.eq_iff_iff]; unfold digN; simp; try omega), rfl⟩
theorem ref_digit (n : Int) : Bl 35 #[.int .u8 n] (digN n) := by
  intro w
  go_enter Tryd.func35, Tryd.ntmps35
  go_wp2
  all_goals
    go_ret
    exact ⟨ret_bool (by rw [Bool.eq_iff_iff]; unfold digN; simp; try omega), rfl⟩
theorem lex_blank (n : Int) : Bl 24 #[.int .u8 n] (blkN n) := by
  intro w
  go_enter Tryd.func24, Tryd.ntmps24
  go_wp2
  all_goals
    go_ret
    exact ⟨ret_bool (by rw [Bool.eq_iff_iff]; unfold blkN; simp; try omega), rfl⟩
theorem ref_blank (n : Int) : Bl 28 #[.int .u8 n] (blkN n) := by
  intro w
  go_enter Tryd.func28, Tryd.ntmps28
  go_wp2
  all_goals
    go_ret
    exact ⟨ret_bool (by rw [Bool.eq_iff_iff]; unfold blkN; simp; try omega), rfl⟩
theorem lex_inComment (n : Int) : Bl 26 #[.int .u8 n] (noEN n) := by
  intro w
  go_enter Tryd.func26, Tryd.ntmps26
  go_wp2
  all_goals
    go_ret
    exact ⟨ret_bool (by rw [Bool.eq_iff_iff]; unfold noEN; simp; try omega), rfl⟩
theorem lex_inWord (n : Int) : Bl 42 #[.int .u8 n] (innN n) := by
  intro w
  go_enter Tryd.func42, Tryd.ntmps42
  go_wp2_with (first | (go_at_call 30; refine (lex_letter _ _).mono ?_; rintro e w' ⟨rfl, rfl⟩) | (go_at_call 36; refine (lex_digit _ _).mono ?_; rintro e w' ⟨rfl, rfl⟩))
  all_goals
    go_ret
    exact ⟨ret_bool (by rw [Bool.eq_iff_iff]; unfold innN; simp [*]; try omega), rfl⟩
theorem ref_inner (n : Int) : Bl 19 #[.int .u8 n] (innN n) := by
  intro w
  go_enter Tryd.func19, Tryd.ntmps19
  go_wp2_with (first | (go_at_call 34; refine (ref_letter _ _).mono ?_; rintro e w' ⟨rfl, rfl⟩) | (go_at_call 35; refine (ref_digit _ _).mono ?_; rintro e w' ⟨rfl, rfl⟩))
  all_goals
    go_ret
    exact ⟨ret_bool (by rw [Bool.eq_iff_iff]; unfold innN; simp [*]; try omega), rfl⟩

theorem count_word (s : ByteArray) (hs : s.size ≤ maxLen) (w : World) :
    Calls Tryd.prog 25 #[.string s, .func (.func 42) #[] #[]] w fun e w' => e = .returned (.int .i64 (cnt innB s.data.toList : Nat)) ∧ w = w' := by
  unfold maxLen at hs
  go_enter Tryd.func25, Tryd.ntmps25
  go_wp2
  go_loop [8] (fun i => ∃ k : Nat, k ≤ s.size ∧ i = .int .i64 k ∧ AllUp innB s.data.toList k) (fun i => s.size - (intOf i).toNat)
  case atStart => exact ⟨0, Nat.zero_le _, rfl, allUp_zero _ _⟩
  case round =>
    obtain ⟨k, hk, rfl, hall⟩ := hrel
    by_cases hlt : k < s.size
    · have hg := Lib.hid (get_toList s k hlt)
      cases hp : innN (s[k].toNat : Int)
      · go_wp2_with fail
        refine (lex_inWord _ _).mono ?_
        rintro e w' ⟨rfl, rfl⟩
        go_wp2
        go_ret
        exact ⟨ret_int (by rw [hall.stop hg.out hp]), rfl⟩
      · go_wp2_with fail
        refine (lex_inWord _ _).mono ?_
        rintro e w' ⟨rfl, rfl⟩
        go_wp2
        go_round
        case rel => exact ⟨k + 1, by omega, by go_num, hall.step hg.out hp⟩
        case measure => simp [intOf]; omega
    · go_wp2
      go_ret
      exact ⟨ret_int (by rw [hall.last (by rw [size_toList]; omega)]; go_num), rfl⟩
theorem count_digit (s : ByteArray) (hs : s.size ≤ maxLen) (w : World) :
    Calls Tryd.prog 25 #[.string s, .func (.func 36) #[] #[]] w fun e w' => e = .returned (.int .i64 (cnt digB s.data.toList : Nat)) ∧ w = w' := by
  unfold maxLen at hs
  go_enter Tryd.func25, Tryd.ntmps25
  go_wp2
  go_loop [8] (fun i => ∃ k : Nat, k ≤ s.size ∧ i = .int .i64 k ∧ AllUp digB s.data.toList k) (fun i => s.size - (intOf i).toNat)
  case atStart => exact ⟨0, Nat.zero_le _, rfl, allUp_zero _ _⟩
  case round =>
    obtain ⟨k, hk, rfl, hall⟩ := hrel
    by_cases hlt : k < s.size
    · have hg := Lib.hid (get_toList s k hlt)
      cases hp : digN (s[k].toNat : Int)
      · go_wp2_with fail
        refine (lex_digit _ _).mono ?_
        rintro e w' ⟨rfl, rfl⟩
        go_wp2
        go_ret
        exact ⟨ret_int (by rw [hall.stop hg.out hp]), rfl⟩
      · go_wp2_with fail
        refine (lex_digit _ _).mono ?_
        rintro e w' ⟨rfl, rfl⟩
        go_wp2
        go_round
        case rel => exact ⟨k + 1, by omega, by go_num, hall.step hg.out hp⟩
        case measure => simp [intOf]; omega
    · go_wp2
      go_ret
      exact ⟨ret_int (by rw [hall.last (by rw [size_toList]; omega)]; go_num), rfl⟩
theorem count_comment (s : ByteArray) (hs : s.size ≤ maxLen) (w : World) :
    Calls Tryd.prog 25 #[.string s, .func (.func 26) #[] #[]] w fun e w' => e = .returned (.int .i64 (cnt noE s.data.toList : Nat)) ∧ w = w' := by
  unfold maxLen at hs
  go_enter Tryd.func25, Tryd.ntmps25
  go_wp2
  go_loop [8] (fun i => ∃ k : Nat, k ≤ s.size ∧ i = .int .i64 k ∧ AllUp noE s.data.toList k) (fun i => s.size - (intOf i).toNat)
  case atStart => exact ⟨0, Nat.zero_le _, rfl, allUp_zero _ _⟩
  case round =>
    obtain ⟨k, hk, rfl, hall⟩ := hrel
    by_cases hlt : k < s.size
    · have hg := Lib.hid (get_toList s k hlt)
      cases hp : noEN (s[k].toNat : Int)
      · go_wp2_with fail
        refine (lex_inComment _ _).mono ?_
        rintro e w' ⟨rfl, rfl⟩
        go_wp2
        go_ret
        exact ⟨ret_int (by rw [hall.stop hg.out hp]), rfl⟩
      · go_wp2_with fail
        refine (lex_inComment _ _).mono ?_
        rintro e w' ⟨rfl, rfl⟩
        go_wp2
        go_round
        case rel => exact ⟨k + 1, by omega, by go_num, hall.step hg.out hp⟩
        case measure => simp [intOf]; omega
    · go_wp2
      go_ret
      exact ⟨ret_int (by rw [hall.last (by rw [size_toList]; omega)]; go_num), rfl⟩
end Go.Proofs.YtlpmeodphjpmeaaDoor.Lex
