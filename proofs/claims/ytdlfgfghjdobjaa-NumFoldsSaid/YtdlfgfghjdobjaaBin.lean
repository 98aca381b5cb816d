import Derived.Test.YtdlfgfghjdobjaaFind
import Derived.Test.YtdlfgfghjdobjaaLeaf
/- num.Binary at each of the operators, out of the contracts of what it calls. -/
namespace Go.Proofs.Ytdlfgfghjdobjaa.Num
open Go.ChangeShapes Go.WideShapes Go.ChangeAt Go.RowKit

theorem find_at (i : Nat) (hi : i < 20) (o : Int) (ho : o = (i : Int)) (v : Value) (hv : v = .tuple #[.agg (row i).toArray, .bool true]) (w : World) : Calls Try.prog 32 #[.int .i64 o] w fun e w' => e = .returned v ∧ Below w.heap.size w w' := by
  subst ho; subst hv; exact find_in i hi w
/-- What num.Binary does at operator o. -/
def BinS (i : Nat) (o : Int) : Prop := ∀ (A B : BitVec 32) (w : World), Calls Try.prog 12 #[.int .i64 o, .int .i32 (sI A), .int .i32 (sI B)] w fun e w' => e = .returned (.tuple #[.int .i32 (sI (binF i A B)), .bool true]) ∧ Below w.heap.size w w'

theorem bin0 : BinS 0 0 := by
  intro A B w
  go_enter Try.func12, Try.ntmps12
  go_wp2_with (first | (go_at_call 32; refine (find_at 0 (by omega) 0 rfl _ rfl _).mono ?_; rintro e w1 ⟨rfl, hb⟩; simp only [row, sgn, com, fol, neu]) | (go_at_call 40; refine (add_ A B _).mono ?_; rintro e w2 ⟨rfl, rfl⟩))
  go_ret2
  exact ⟨rfl, hb.alloc hb.size _⟩

theorem bin1 : BinS 1 1 := by
  intro A B w
  go_enter Try.func12, Try.ntmps12
  go_wp2_with (first | (go_at_call 32; refine (find_at 1 (by omega) 1 rfl _ rfl _).mono ?_; rintro e w1 ⟨rfl, hb⟩; simp only [row, sgn, com, fol, neu]) | (go_at_call 41; refine (sub_ A B _).mono ?_; rintro e w2 ⟨rfl, rfl⟩))
  go_ret2
  exact ⟨rfl, hb.alloc hb.size _⟩

theorem bin2 : BinS 2 2 := by
  intro A B w
  go_enter Try.func12, Try.ntmps12
  go_wp2_with (first | (go_at_call 32; refine (find_at 2 (by omega) 2 rfl _ rfl _).mono ?_; rintro e w1 ⟨rfl, hb⟩; simp only [row, sgn, com, fol, neu]) | (go_at_call 42; refine (mul_ A B _).mono ?_; rintro e w2 ⟨rfl, rfl⟩))
  go_ret2
  exact ⟨rfl, hb.alloc hb.size _⟩

theorem bin3 : BinS 3 3 := by
  intro A B w
  go_enter Try.func12, Try.ntmps12
  go_wp2_with (first | (go_at_call 32; refine (find_at 3 (by omega) 3 rfl _ rfl _).mono ?_; rintro e w1 ⟨rfl, hb⟩; simp only [row, sgn, com, fol, neu]) | (go_at_call 43; refine (div_ A B _).mono ?_; rintro e w2 ⟨rfl, rfl⟩))
  go_ret2
  exact ⟨rfl, hb.alloc hb.size _⟩

theorem bin4 : BinS 4 4 := by
  intro A B w
  go_enter Try.func12, Try.ntmps12
  go_wp2_with (first | (go_at_call 32; refine (find_at 4 (by omega) 4 rfl _ rfl _).mono ?_; rintro e w1 ⟨rfl, hb⟩; simp only [row, sgn, com, fol, neu]) | (go_at_call 44; refine (rem_ A B _).mono ?_; rintro e w2 ⟨rfl, rfl⟩))
  go_ret2
  exact ⟨rfl, hb.alloc hb.size _⟩

theorem bin5 : BinS 5 5 := by
  intro A B w
  go_enter Try.func12, Try.ntmps12
  go_wp2_with (first | (go_at_call 32; refine (find_at 5 (by omega) 5 rfl _ rfl _).mono ?_; rintro e w1 ⟨rfl, hb⟩; simp only [row, sgn, com, fol, neu]) | (go_at_call 45; refine (and_ A B _).mono ?_; rintro e w2 ⟨rfl, rfl⟩))
  go_ret2
  exact ⟨rfl, hb.alloc hb.size _⟩

theorem bin6 : BinS 6 6 := by
  intro A B w
  go_enter Try.func12, Try.ntmps12
  go_wp2_with (first | (go_at_call 32; refine (find_at 6 (by omega) 6 rfl _ rfl _).mono ?_; rintro e w1 ⟨rfl, hb⟩; simp only [row, sgn, com, fol, neu]) | (go_at_call 46; refine (or_ A B _).mono ?_; rintro e w2 ⟨rfl, rfl⟩))
  go_ret2
  exact ⟨rfl, hb.alloc hb.size _⟩

theorem bin7 : BinS 7 7 := by
  intro A B w
  go_enter Try.func12, Try.ntmps12
  go_wp2_with (first | (go_at_call 32; refine (find_at 7 (by omega) 7 rfl _ rfl _).mono ?_; rintro e w1 ⟨rfl, hb⟩; simp only [row, sgn, com, fol, neu]) | (go_at_call 47; refine (xor_ A B _).mono ?_; rintro e w2 ⟨rfl, rfl⟩))
  go_ret2
  exact ⟨rfl, hb.alloc hb.size _⟩

theorem bin8 : BinS 8 8 := by
  intro A B w
  go_enter Try.func12, Try.ntmps12
  go_wp2_with (first | (go_at_call 32; refine (find_at 8 (by omega) 8 rfl _ rfl _).mono ?_; rintro e w1 ⟨rfl, hb⟩; simp only [row, sgn, com, fol, neu]) | (go_at_call 48; refine (shl_ A B _).mono ?_; rintro e w2 ⟨rfl, rfl⟩))
  go_ret2
  exact ⟨rfl, hb.alloc hb.size _⟩

theorem bin9 : BinS 9 9 := by
  intro A B w
  go_enter Try.func12, Try.ntmps12
  go_wp2_with (first | (go_at_call 32; refine (find_at 9 (by omega) 9 rfl _ rfl _).mono ?_; rintro e w1 ⟨rfl, hb⟩; simp only [row, sgn, com, fol, neu]) | (go_at_call 49; refine (shr_ A B _).mono ?_; rintro e w2 ⟨rfl, rfl⟩))
  go_ret2
  exact ⟨rfl, hb.alloc hb.size _⟩

theorem bin10 : BinS 10 10 := by
  intro A B w
  go_enter Try.func12, Try.ntmps12
  go_wp2_with (first | (go_at_call 32; refine (find_at 10 (by omega) 10 rfl _ rfl _).mono ?_; rintro e w1 ⟨rfl, hb⟩; simp only [row, sgn, com, fol, neu]) | (go_at_call 50; refine (ushr_ A B _).mono ?_; rintro e w2 ⟨rfl, rfl⟩))
  go_ret2
  exact ⟨rfl, hb.alloc hb.size _⟩

theorem bin11 : BinS 11 11 := by
  intro A B w
  go_enter Try.func12, Try.ntmps12
  go_wp2_with (first | (go_at_call 32; refine (find_at 11 (by omega) 11 rfl _ rfl _).mono ?_; rintro e w1 ⟨rfl, hb⟩; simp only [row, sgn, com, fol, neu]) | (go_at_call 51; refine (lt_ A B _).mono ?_; rintro e w2 ⟨rfl, rfl⟩))
  go_ret2
  exact ⟨rfl, hb.alloc hb.size _⟩

theorem bin12 : BinS 12 12 := by
  intro A B w
  go_enter Try.func12, Try.ntmps12
  go_wp2_with (first | (go_at_call 32; refine (find_at 12 (by omega) 12 rfl _ rfl _).mono ?_; rintro e w1 ⟨rfl, hb⟩; simp only [row, sgn, com, fol, neu]) | (go_at_call 52; refine (le_ A B _).mono ?_; rintro e w2 ⟨rfl, rfl⟩))
  go_ret2
  exact ⟨rfl, hb.alloc hb.size _⟩

theorem bin13 : BinS 13 13 := by
  intro A B w
  go_enter Try.func12, Try.ntmps12
  go_wp2_with (first | (go_at_call 32; refine (find_at 13 (by omega) 13 rfl _ rfl _).mono ?_; rintro e w1 ⟨rfl, hb⟩; simp only [row, sgn, com, fol, neu]) | (go_at_call 53; refine (eq_ A B _).mono ?_; rintro e w2 ⟨rfl, rfl⟩))
  go_ret2
  exact ⟨rfl, hb.alloc hb.size _⟩

theorem bin14 : BinS 14 14 := by
  intro A B w
  go_enter Try.func12, Try.ntmps12
  go_wp2_with (first | (go_at_call 32; refine (find_at 14 (by omega) 14 rfl _ rfl _).mono ?_; rintro e w1 ⟨rfl, hb⟩; simp only [row, sgn, com, fol, neu]) | (go_at_call 54; refine (ne_ A B _).mono ?_; rintro e w2 ⟨rfl, rfl⟩))
  go_ret2
  exact ⟨rfl, hb.alloc hb.size _⟩

theorem bin15 : BinS 15 15 := by
  intro A B w
  go_enter Try.func12, Try.ntmps12
  go_wp2_with (first | (go_at_call 32; refine (find_at 15 (by omega) 15 rfl _ rfl _).mono ?_; rintro e w1 ⟨rfl, hb⟩; simp only [row, sgn, com, fol, neu]) | (go_at_call 55; refine (ult_ A B _).mono ?_; rintro e w2 ⟨rfl, rfl⟩))
  go_ret2
  exact ⟨rfl, hb.alloc hb.size _⟩

theorem bin16 : BinS 16 16 := by
  intro A B w
  go_enter Try.func12, Try.ntmps12
  go_wp2_with (first | (go_at_call 32; refine (find_at 16 (by omega) 16 rfl _ rfl _).mono ?_; rintro e w1 ⟨rfl, hb⟩; simp only [row, sgn, com, fol, neu]) | (go_at_call 56; refine (both_ A B _).mono ?_; rintro e w2 ⟨rfl, rfl⟩))
  go_ret2
  exact ⟨rfl, hb.alloc hb.size _⟩

theorem bin17 : BinS 17 17 := by
  intro A B w
  go_enter Try.func12, Try.ntmps12
  go_wp2_with (first | (go_at_call 32; refine (find_at 17 (by omega) 17 rfl _ rfl _).mono ?_; rintro e w1 ⟨rfl, hb⟩; simp only [row, sgn, com, fol, neu]) | (go_at_call 57; refine (some_ A B _).mono ?_; rintro e w2 ⟨rfl, rfl⟩))
  go_ret2
  exact ⟨rfl, hb.alloc hb.size _⟩

theorem bin18 : BinS 18 18 := by
  intro A B w
  go_enter Try.func12, Try.ntmps12
  go_wp2_with (first | (go_at_call 32; refine (find_at 18 (by omega) 18 rfl _ rfl _).mono ?_; rintro e w1 ⟨rfl, hb⟩; simp only [row, sgn, com, fol, neu]) | (go_at_call 58; refine (smaller_ A B _).mono ?_; rintro e w2 ⟨rfl, rfl⟩))
  go_ret2
  exact ⟨rfl, hb.alloc hb.size _⟩

theorem bin19 : BinS 19 19 := by
  intro A B w
  go_enter Try.func12, Try.ntmps12
  go_wp2_with (first | (go_at_call 32; refine (find_at 19 (by omega) 19 rfl _ rfl _).mono ?_; rintro e w1 ⟨rfl, hb⟩; simp only [row, sgn, com, fol, neu]) | (go_at_call 59; refine (greater_ A B _).mono ?_; rintro e w2 ⟨rfl, rfl⟩))
  go_ret2
  exact ⟨rfl, hb.alloc hb.size _⟩

theorem bin_in : ∀ i, i < 20 → BinS i (i : Int) :=
  below_succ (below_succ (below_succ (below_succ (below_succ (below_succ (below_succ (below_succ (below_succ (below_succ (below_succ (below_succ (below_succ (below_succ (below_succ (below_succ (below_succ (below_succ (below_succ (below_succ below_zero
    bin0) bin1) bin2) bin3) bin4) bin5) bin6) bin7) bin8) bin9) bin10) bin11) bin12) bin13) bin14) bin15) bin16) bin17) bin18) bin19

theorem bin_out (o : Int) (h : o < 0 ∨ 20 ≤ o) (x y : Int) (w : World) : Calls Try.prog 12 #[.int .i64 o, .int .i32 x, .int .i32 y] w fun e w' => e = .returned (.tuple #[.int .i32 0, .bool false]) ∧ Below w.heap.size w w' := by
  go_enter Try.func12, Try.ntmps12
  go_wp2_with (first | (go_at_call 32; refine (find_out o h _).mono ?_; rintro e w1 ⟨rfl, hb⟩; simp only [row0]))
  go_ret2
  exact ⟨rfl, hb.alloc hb.size _⟩

/-- The operator's number, whatever it is, as one that binF knows. -/
def opN (o : Int) : Nat := if o < 0 then 20 else o.toNat
theorem binF_out (i : Nat) (h : 20 ≤ i) (A B : BitVec 32) : binF i A B = 0#32 := by
  obtain ⟨k, rfl⟩ : ∃ k, i = k + 20 := ⟨i - 20, by omega⟩
  rfl
/-- num.Binary at whatever number. -/
theorem binary_any (o : Int) (A B : BitVec 32) (w : World) : Calls Try.prog 12 #[.int .i64 o, .int .i32 (sI A), .int .i32 (sI B)] w fun e w' => e = .returned (.tuple #[.int .i32 (sI (binF (opN o) A B)), .bool (decide (opN o < 20))]) ∧ Below w.heap.size w w' := by
  by_cases h : opN o < 20
  · have ho : o = (opN o : Int) := by
      unfold opN at h ⊢
      by_cases hn : o < 0
      · rw [if_pos hn] at h; omega
      · rw [if_neg hn]; omega
    have := bin_in _ h A B w
    rw [← ho] at this
    rw [decide_eq_true h]
    exact this
  · have ho : o < 0 ∨ 20 ≤ o := by
      unfold opN at h
      by_cases hn : o < 0
      · exact .inl hn
      · rw [if_neg hn] at h; omega
    have e : binF (opN o) A B = 0#32 := binF_out _ (by omega) A B
    rw [decide_eq_false h, e]
    exact bin_out o ho _ _ w

theorem do_any (o : Int) (A B : BitVec 32) (w : World) : Calls Try.prog 29 #[.int .i64 o, .int .i32 (sI A), .int .i32 (sI B)] w fun e w' => e = .returned (.int .i32 (sI (binF (opN o) A B))) ∧ Below w.heap.size w w' := by
  go_enter Try.func29, Try.ntmps29
  go_wp2_with (first | (go_at_call 12; refine (binary_any o A B _).mono ?_; rintro e w1 ⟨rfl, hb⟩))
  go_ret
  exact ⟨rfl, hb⟩
/-- The same at a number and words that are told: each by an equation. -/
theorem do_at (i : Nat) (hi : i < 20) (A B : BitVec 32) (o : Int) (ho : o = (i : Int)) (a b : Int) (ha : a = sI A) (hb : b = sI B) (w : World) :
    Calls Try.prog 29 #[.int .i64 o, .int .i32 a, .int .i32 b] w fun e w' => e = .returned (.int .i32 (sI (binF i A B))) ∧ Below w.heap.size w w' := by
  subst ha; subst hb
  have h := do_any o A B w
  have e : opN o = i := by unfold opN; rw [if_neg (by omega)]; omega
  rwa [e] at h

end Go.Proofs.Ytdlfgfghjdobjaa.Num
