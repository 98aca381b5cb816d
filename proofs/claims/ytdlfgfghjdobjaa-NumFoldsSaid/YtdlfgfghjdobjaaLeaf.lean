import Derived.Test.YtdlfgfghjdobjaaRows
import Derived.Test.YtdlfgfghjdobjaaMath
import Derived.WalkKit
import Derived.ProofKit
import Derived.Below
import Derived.Outline
import Derived.WalkLawsBesides
/- The small functions of package num: what each returns; the world stays as it is. -/
namespace Go.Proofs.Ytdlfgfghjdobjaa.Num
open Go.ChangeShapes Go.WideShapes Go.ChangeAt Go.RowKit

theorem ret_i {k : IntKind} {a b : Int} (h : a = b) : Ending.returned (.int k a) = .returned (.int k b) := by rw [h]
abbrev Leaf (f : FuncId) (i : Nat) : Prop := ∀ (A B : BitVec 32) (w : World), Calls Try.prog f #[.int .i32 (sI A), .int .i32 (sI B)] w fun e w' => e = .returned (.int .i32 (sI (binF i A B))) ∧ w = w'

theorem truth_ (c : Bool) (w : World) : Calls Try.prog 66 #[.bool c] w fun e w' => e = .returned (.int .i32 (sI (tr c))) ∧ w = w' := by
  cases c
  all_goals
    go_enter Try.func66, Try.ntmps66
    go_wp2
    go_ret
    exact ⟨rfl, rfl⟩
theorem distance_ (B : BitVec 32) (w : World) : Calls Try.prog 65 #[.int .i32 (sI B)] w fun e w' => e = .returned (.int .u32 (dist B : Nat)) ∧ w = w' := by
  have h := dist_sI B
  go_enter Try.func65, Try.ntmps65
  go_wp2
  go_ret
  exact ⟨rfl, rfl⟩

theorem add_ : Leaf 40 0 := by
  intro A B w
  go_enter Try.func40, Try.ntmps40
  go_wp2
  go_ret
  exact ⟨ret_i (add_sI A B), rfl⟩

theorem sub_ : Leaf 41 1 := by
  intro A B w
  go_enter Try.func41, Try.ntmps41
  go_wp2
  go_ret
  exact ⟨ret_i (sub_sI A B), rfl⟩

theorem mul_ : Leaf 42 2 := by
  intro A B w
  go_enter Try.func42, Try.ntmps42
  go_wp2
  go_ret
  exact ⟨ret_i (mul_sI A B), rfl⟩

theorem and_ : Leaf 45 5 := by
  intro A B w
  go_enter Try.func45, Try.ntmps45
  go_wp2
  go_ret
  exact ⟨ret_i (and_sI A B), rfl⟩

theorem or_ : Leaf 46 6 := by
  intro A B w
  go_enter Try.func46, Try.ntmps46
  go_wp2
  go_ret
  exact ⟨ret_i (or_sI A B), rfl⟩

theorem xor_ : Leaf 47 7 := by
  intro A B w
  go_enter Try.func47, Try.ntmps47
  go_wp2
  go_ret
  exact ⟨ret_i (xor_sI A B), rfl⟩

theorem div_ : Leaf 43 3 := by
  intro A B w
  by_cases h : B = 0#32
  · have h1 : (sI B == 0) = true := by subst h; decide
    go_enter Try.func43, Try.ntmps43
    go_wp2
    go_ret
    exact ⟨ret_i (by simp [binF, h]; decide), rfl⟩
  · have h1 : (sI B == 0) = false := by
      rw [beq_eq_false_iff_ne]; intro e; exact h (sI_inj (e.trans (by decide)))
    have h2 : ¬ sI B = 0 := by simpa using h1
    go_enter Try.func43, Try.ntmps43
    go_wp2
    go_ret
    exact ⟨ret_i (by simp only [binF, if_neg h]; exact div_sI A B), rfl⟩

theorem rem_ : Leaf 44 4 := by
  intro A B w
  by_cases h : B = 0#32
  · have h1 : (sI B == 0) = true := by subst h; decide
    go_enter Try.func44, Try.ntmps44
    go_wp2
    go_ret
    exact ⟨ret_i (by simp [binF, h]; decide), rfl⟩
  · have h1 : (sI B == 0) = false := by
      rw [beq_eq_false_iff_ne]; intro e; exact h (sI_inj (e.trans (by decide)))
    have h2 : ¬ sI B = 0 := by simpa using h1
    go_enter Try.func44, Try.ntmps44
    go_wp2
    go_ret
    exact ⟨ret_i (by simp only [binF, if_neg h]; exact rem_sI A B), rfl⟩

theorem shl_ : Leaf 48 8 := by
  intro A B w
  have hd := dist_lt B
  have hm := mod_sI A
  go_enter Try.func48, Try.ntmps48
  go_wp2_with (go_at_call 65; refine (distance_ B _).mono ?_; rintro e w' ⟨rfl, rfl⟩)
  go_ret
  exact ⟨ret_i (shl_sI A B), rfl⟩

theorem shr_ : Leaf 49 9 := by
  intro A B w
  have hd := dist_lt B
  have hm := mod_sI A
  go_enter Try.func49, Try.ntmps49
  go_wp2_with (go_at_call 65; refine (distance_ B _).mono ?_; rintro e w' ⟨rfl, rfl⟩)
  go_ret
  exact ⟨ret_i (shr_sI A B), rfl⟩

theorem ushr_ : Leaf 50 10 := by
  intro A B w
  have hd := dist_lt B
  have hm := mod_sI A
  go_enter Try.func50, Try.ntmps50
  go_wp2_with (go_at_call 65; refine (distance_ B _).mono ?_; rintro e w' ⟨rfl, rfl⟩)
  go_ret
  exact ⟨ret_i (ushr_sI A B), rfl⟩

theorem lt_ : Leaf 51 11 := by
  intro A B w
  go_enter Try.func51, Try.ntmps51
  go_wp2_with (go_at_call 66; refine (truth_ _ _).mono ?_; rintro e w' ⟨rfl, rfl⟩)
  go_ret
  exact ⟨rfl, rfl⟩

theorem le_ : Leaf 52 12 := by
  intro A B w
  go_enter Try.func52, Try.ntmps52
  go_wp2_with (go_at_call 66; refine (truth_ _ _).mono ?_; rintro e w' ⟨rfl, rfl⟩)
  go_ret
  exact ⟨rfl, rfl⟩

theorem eq_ : Leaf 53 13 := by
  intro A B w
  go_enter Try.func53, Try.ntmps53
  go_wp2_with (go_at_call 66; refine (truth_ _ _).mono ?_; rintro e w' ⟨rfl, rfl⟩)
  go_ret
  exact ⟨rfl, rfl⟩

theorem ne_ : Leaf 54 14 := by
  intro A B w
  go_enter Try.func54, Try.ntmps54
  go_wp2_with (go_at_call 66; refine (truth_ _ _).mono ?_; rintro e w' ⟨rfl, rfl⟩)
  go_ret
  exact ⟨rfl, rfl⟩

theorem ult_ : Leaf 55 15 := by
  intro A B w
  have hm := mod_sI A
  have hn := mod_sI B
  go_enter Try.func55, Try.ntmps55
  go_wp2_with (go_at_call 66; refine (truth_ _ _).mono ?_; rintro e w' ⟨rfl, rfl⟩)
  go_ret
  exact ⟨ret_i (by simp [binF]), rfl⟩

theorem both_ : Leaf 56 16 := by
  intro A B w
  by_cases h : sI A = 0
  all_goals
    go_enter Try.func56, Try.ntmps56
    go_wp2_with (go_at_call 66; refine (truth_ _ _).mono ?_; rintro e w' ⟨rfl, rfl⟩)
    go_ret
    exact ⟨ret_i (by simp [binF, h]), rfl⟩

theorem some_ : Leaf 57 17 := by
  intro A B w
  by_cases h : sI A = 0
  · go_enter Try.func57, Try.ntmps57
    go_wp2_with (go_at_call 66; refine (truth_ _ _).mono ?_; rintro e w' ⟨rfl, rfl⟩)
    go_ret
    exact ⟨ret_i (by simp [binF, h]), rfl⟩
  · have h1 : (sI A != 0) = true := bne_iff_ne.2 h
    go_enter Try.func57, Try.ntmps57
    go_wp2_with (go_at_call 66; refine (truth_ _ _).mono ?_; rintro e w' ⟨rfl, rfl⟩)
    go_ret
    exact ⟨ret_i (by simp only [binF, bne_iff_ne.2 h, Bool.true_or]), rfl⟩

theorem smaller_ : Leaf 58 18 := by
  intro A B w
  by_cases h : sI B < sI A
  all_goals
    go_enter Try.func58, Try.ntmps58
    go_wp2
    go_ret
    exact ⟨ret_i (by simp only [binF]; first | rw [if_pos (by omega)] | rw [if_neg (by omega)]), rfl⟩

theorem greater_ : Leaf 59 19 := by
  intro A B w
  by_cases h : sI A < sI B
  all_goals
    go_enter Try.func59, Try.ntmps59
    go_wp2
    go_ret
    exact ⟨ret_i (by simp only [binF]; first | rw [if_pos (by omega)] | rw [if_neg (by omega)]), rfl⟩

theorem neg_ (A : BitVec 32) (w : World) : Calls Try.prog 62 #[.int .i32 (sI A)] w fun e w' => e = .returned (.int .i32 (sI (unF 0 A))) ∧ w = w' := by
  go_enter Try.func62, Try.ntmps62
  go_wp2
  go_ret
  exact ⟨ret_i (neg_sI A), rfl⟩
theorem not_ (A : BitVec 32) (w : World) : Calls Try.prog 63 #[.int .i32 (sI A)] w fun e w' => e = .returned (.int .i32 (sI (unF 1 A))) ∧ w = w' := by
  go_enter Try.func63, Try.ntmps63
  go_wp2
  go_ret
  exact ⟨ret_i (not_sI A), rfl⟩
theorem zero_ (A : BitVec 32) (w : World) : Calls Try.prog 64 #[.int .i32 (sI A)] w fun e w' => e = .returned (.int .i32 (sI (unF 2 A))) ∧ w = w' := by
  go_enter Try.func64, Try.ntmps64
  go_wp2_with (go_at_call 66; refine (truth_ _ _).mono ?_; rintro e w' ⟨rfl, rfl⟩)
  go_ret
  exact ⟨rfl, rfl⟩
end Go.Proofs.Ytdlfgfghjdobjaa.Num
