import Derived.Test.YtdlfgfghjdobjaaFold
/- num.Unary, num.UnaryText; the laws' own do, one. -/
namespace Go.Proofs.Ytdlfgfghjdobjaa.Num
open Go.ChangeShapes Go.WideShapes Go.ChangeAt Go.RowKit

def sgu : Nat → List UInt8
  | 0 => [45] | 1 => [126] | 2 => [33] | _ => []
def rowU (i : Nat) : List Value := [.string ⟨(sgu i).toArray⟩, .func (.func (62 + i)) #[] #[]]
def rowU0 : Array Value := #[.string ⟨#[]⟩, .nilFunc]
def FindU (i : Nat) (o : Int) : Prop := ∀ (w : World), Calls Try.prog 38 #[.int .i64 o] w fun e w' => e = .returned (.tuple #[.agg (rowU i).toArray, .bool true]) ∧ Below w.heap.size w w'

theorem findU0 : FindU 0 0 := by
  intro w
  go_enter Try.func38, Try.ntmps38
  go_wp2
  exact bodyPost_ret (v := .tuple #[.agg (rowU 0).toArray, .bool true]) (by simp [results, Try.results38, go_sem, rowU, sgu]) rfl ⟨rfl, ((Below.refl _ _).alloc (Nat.le_refl _) _).alloc (by simp) _⟩

theorem findU1 : FindU 1 1 := by
  intro w
  go_enter Try.func38, Try.ntmps38
  go_wp2
  exact bodyPost_ret (v := .tuple #[.agg (rowU 1).toArray, .bool true]) (by simp [results, Try.results38, go_sem, rowU, sgu]) rfl ⟨rfl, ((Below.refl _ _).alloc (Nat.le_refl _) _).alloc (by simp) _⟩

theorem findU2 : FindU 2 2 := by
  intro w
  go_enter Try.func38, Try.ntmps38
  go_wp2
  exact bodyPost_ret (v := .tuple #[.agg (rowU 2).toArray, .bool true]) (by simp [results, Try.results38, go_sem, rowU, sgu]) rfl ⟨rfl, ((Below.refl _ _).alloc (Nat.le_refl _) _).alloc (by simp) _⟩

theorem findU_out (i : Int) (h : i < 0 ∨ 3 ≤ i) (w : World) : Calls Try.prog 38 #[.int .i64 i] w fun e w' => e = .returned (.tuple #[.agg rowU0, .bool false]) ∧ Below w.heap.size w w' := by
  rcases h with h | h
  · go_enter Try.func38, Try.ntmps38
    go_wp2
    exact bodyPost_ret (v := .tuple #[.agg rowU0, .bool false]) (by simp [results, Try.results38, go_sem, rowU0]) rfl ⟨rfl, ((Below.refl _ _).alloc (Nat.le_refl _) _)⟩
  · have h' : ¬ i < 0 := by omega
    go_enter Try.func38, Try.ntmps38
    go_wp2
    exact bodyPost_ret (v := .tuple #[.agg rowU0, .bool false]) (by simp [results, Try.results38, go_sem, rowU0]) rfl ⟨rfl, ((Below.refl _ _).alloc (Nat.le_refl _) _)⟩

def UnS (i : Nat) (o : Int) : Prop := ∀ (A : BitVec 32) (w : World), Calls Try.prog 19 #[.int .i64 o, .int .i32 (sI A)] w fun e w' => e = .returned (.tuple #[.int .i32 (sI (unF i A)), .bool true]) ∧ Below w.heap.size w w'

theorem un0 : UnS 0 0 := by
  intro A w
  go_enter Try.func19, Try.ntmps19
  go_wp2_with (first | (go_at_call 38; refine (findU0 _).mono ?_; rintro e w1 ⟨rfl, hb⟩; simp only [rowU, sgu, Nat.reduceAdd]) | (go_at_call 62; refine (neg_ A _).mono ?_; rintro e w2 ⟨rfl, rfl⟩))
  go_ret2
  exact ⟨rfl, hb.alloc hb.size _⟩
theorem textU0 (w : World) : Calls Try.prog 21 #[.int .i64 0] w fun e w' => e = .returned (.string ⟨(sgu 0).toArray⟩) ∧ Below w.heap.size w w' := by
  go_enter Try.func21, Try.ntmps21
  go_wp2_with (first | (go_at_call 38; refine (findU0 _).mono ?_; rintro e w1 ⟨rfl, hb⟩; simp only [rowU, sgu, Nat.reduceAdd]))
  go_ret
  exact ⟨rfl, hb.alloc hb.size _⟩
theorem one0 (A : BitVec 32) (w : World) : Calls Try.prog 30 #[.int .i64 0, .int .i32 (sI A)] w fun e w' => e = .returned (.int .i32 (sI (unF 0 A))) ∧ Below w.heap.size w w' := by
  go_enter Try.func30, Try.ntmps30
  go_wp2_with (first | (go_at_call 19; refine (un0 A _).mono ?_; rintro e w1 ⟨rfl, hb⟩))
  go_ret
  exact ⟨rfl, hb⟩

theorem un1 : UnS 1 1 := by
  intro A w
  go_enter Try.func19, Try.ntmps19
  go_wp2_with (first | (go_at_call 38; refine (findU1 _).mono ?_; rintro e w1 ⟨rfl, hb⟩; simp only [rowU, sgu, Nat.reduceAdd]) | (go_at_call 63; refine (not_ A _).mono ?_; rintro e w2 ⟨rfl, rfl⟩))
  go_ret2
  exact ⟨rfl, hb.alloc hb.size _⟩
theorem textU1 (w : World) : Calls Try.prog 21 #[.int .i64 1] w fun e w' => e = .returned (.string ⟨(sgu 1).toArray⟩) ∧ Below w.heap.size w w' := by
  go_enter Try.func21, Try.ntmps21
  go_wp2_with (first | (go_at_call 38; refine (findU1 _).mono ?_; rintro e w1 ⟨rfl, hb⟩; simp only [rowU, sgu, Nat.reduceAdd]))
  go_ret
  exact ⟨rfl, hb.alloc hb.size _⟩
theorem one1 (A : BitVec 32) (w : World) : Calls Try.prog 30 #[.int .i64 1, .int .i32 (sI A)] w fun e w' => e = .returned (.int .i32 (sI (unF 1 A))) ∧ Below w.heap.size w w' := by
  go_enter Try.func30, Try.ntmps30
  go_wp2_with (first | (go_at_call 19; refine (un1 A _).mono ?_; rintro e w1 ⟨rfl, hb⟩))
  go_ret
  exact ⟨rfl, hb⟩

theorem un2 : UnS 2 2 := by
  intro A w
  go_enter Try.func19, Try.ntmps19
  go_wp2_with (first | (go_at_call 38; refine (findU2 _).mono ?_; rintro e w1 ⟨rfl, hb⟩; simp only [rowU, sgu, Nat.reduceAdd]) | (go_at_call 64; refine (zero_ A _).mono ?_; rintro e w2 ⟨rfl, rfl⟩))
  go_ret2
  exact ⟨rfl, hb.alloc hb.size _⟩
theorem textU2 (w : World) : Calls Try.prog 21 #[.int .i64 2] w fun e w' => e = .returned (.string ⟨(sgu 2).toArray⟩) ∧ Below w.heap.size w w' := by
  go_enter Try.func21, Try.ntmps21
  go_wp2_with (first | (go_at_call 38; refine (findU2 _).mono ?_; rintro e w1 ⟨rfl, hb⟩; simp only [rowU, sgu, Nat.reduceAdd]))
  go_ret
  exact ⟨rfl, hb.alloc hb.size _⟩
theorem one2 (A : BitVec 32) (w : World) : Calls Try.prog 30 #[.int .i64 2, .int .i32 (sI A)] w fun e w' => e = .returned (.int .i32 (sI (unF 2 A))) ∧ Below w.heap.size w w' := by
  go_enter Try.func30, Try.ntmps30
  go_wp2_with (first | (go_at_call 19; refine (un2 A _).mono ?_; rintro e w1 ⟨rfl, hb⟩))
  go_ret
  exact ⟨rfl, hb⟩

theorem un_out (o : Int) (h : o < 0 ∨ 3 ≤ o) (x : Int) (w : World) : Calls Try.prog 19 #[.int .i64 o, .int .i32 x] w fun e w' => e = .returned (.tuple #[.int .i32 0, .bool false]) ∧ Below w.heap.size w w' := by
  go_enter Try.func19, Try.ntmps19
  go_wp2_with (first | (go_at_call 38; refine (findU_out o h _).mono ?_; rintro e w1 ⟨rfl, hb⟩; simp only [rowU0]))
  go_ret2
  exact ⟨rfl, hb.alloc hb.size _⟩
theorem textU_out (o : Int) (h : o < 0 ∨ 3 ≤ o) (w : World) : Calls Try.prog 21 #[.int .i64 o] w fun e w' => e = .returned (.string ⟨#[]⟩) ∧ Below w.heap.size w w' := by
  go_enter Try.func21, Try.ntmps21
  go_wp2_with (first | (go_at_call 38; refine (findU_out o h _).mono ?_; rintro e w1 ⟨rfl, hb⟩; simp only [rowU0]))
  go_ret
  exact ⟨rfl, hb.alloc hb.size _⟩

end Go.Proofs.Ytdlfgfghjdobjaa.Num
