import Derived.Test.YtdlfgfghjdobjaaBin
/- num.Commutes, num.Folds, num.Text, num.Neutral out of findBinary. -/
namespace Go.Proofs.Ytdlfgfghjdobjaa.Num
open Go.ChangeShapes Go.WideShapes Go.ChangeAt Go.RowKit

theorem commutes_in (i : Nat) (hi : i < 20) (o : Int) (ho : o = (i : Int)) (w : World) : Calls Try.prog 14 #[.int .i64 o] w fun e w' => e = .returned (.bool (com i)) ∧ Below w.heap.size w w' := by
  subst ho
  go_enter Try.func14, Try.ntmps14
  go_wp2_with (first | (go_at_call 32; refine (find_in i hi _).mono ?_; rintro e w1 ⟨rfl, hb⟩; simp only [row]))
  go_ret
  exact ⟨rfl, hb.alloc hb.size _⟩
theorem commutes_out (o : Int) (h : o < 0 ∨ 20 ≤ o) (w : World) : Calls Try.prog 14 #[.int .i64 o] w fun e w' => e = .returned (.bool false) ∧ Below w.heap.size w w' := by
  go_enter Try.func14, Try.ntmps14
  go_wp2_with (first | (go_at_call 32; refine (find_out o h _).mono ?_; rintro e w1 ⟨rfl, hb⟩; simp only [row0]))
  go_ret
  exact ⟨rfl, hb.alloc hb.size _⟩
theorem folds_in (i : Nat) (hi : i < 20) (o : Int) (ho : o = (i : Int)) (w : World) : Calls Try.prog 27 #[.int .i64 o] w fun e w' => e = .returned (.bool (fol i)) ∧ Below w.heap.size w w' := by
  subst ho
  go_enter Try.func27, Try.ntmps27
  go_wp2_with (first | (go_at_call 32; refine (find_in i hi _).mono ?_; rintro e w1 ⟨rfl, hb⟩; simp only [row]))
  go_ret
  exact ⟨rfl, hb.alloc hb.size _⟩
theorem folds_out (o : Int) (h : o < 0 ∨ 20 ≤ o) (w : World) : Calls Try.prog 27 #[.int .i64 o] w fun e w' => e = .returned (.bool false) ∧ Below w.heap.size w w' := by
  go_enter Try.func27, Try.ntmps27
  go_wp2_with (first | (go_at_call 32; refine (find_out o h _).mono ?_; rintro e w1 ⟨rfl, hb⟩; simp only [row0]))
  go_ret
  exact ⟨rfl, hb.alloc hb.size _⟩
theorem text_in (i : Nat) (hi : i < 20) (o : Int) (ho : o = (i : Int)) (w : World) : Calls Try.prog 16 #[.int .i64 o] w fun e w' => e = .returned (.string ⟨(sgn i).toArray⟩) ∧ Below w.heap.size w w' := by
  subst ho
  go_enter Try.func16, Try.ntmps16
  go_wp2_with (first | (go_at_call 32; refine (find_in i hi _).mono ?_; rintro e w1 ⟨rfl, hb⟩; simp only [row]))
  go_ret
  exact ⟨rfl, hb.alloc hb.size _⟩
theorem text_out (o : Int) (h : o < 0 ∨ 20 ≤ o) (w : World) : Calls Try.prog 16 #[.int .i64 o] w fun e w' => e = .returned (.string ⟨#[]⟩) ∧ Below w.heap.size w w' := by
  go_enter Try.func16, Try.ntmps16
  go_wp2_with (first | (go_at_call 32; refine (find_out o h _).mono ?_; rintro e w1 ⟨rfl, hb⟩; simp only [row0]))
  go_ret
  exact ⟨rfl, hb.alloc hb.size _⟩
end Go.Proofs.Ytdlfgfghjdobjaa.Num
