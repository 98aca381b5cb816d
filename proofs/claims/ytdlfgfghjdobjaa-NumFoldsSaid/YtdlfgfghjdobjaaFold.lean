import Derived.Test.YtdlfgfghjdobjaaCom
import Derived.LoopTactic
/- num.Neutral and num.Fold. -/
namespace Go.Proofs.Ytdlfgfghjdobjaa.Num
open Go.ChangeShapes Go.WideShapes Go.ChangeAt Go.RowKit

theorem ret2_i {k : IntKind} {a b : Int} {c : Value} (h : a = b) : Ending.returned (.tuple #[.int k a, c]) = .returned (.tuple #[.int k b, c]) := by rw [h]
theorem neutral_in (i : Nat) (hi : i < 20) (hf : fol i = true) (o : Int) (ho : o = (i : Int)) (w : World) : Calls Try.prog 23 #[.int .i64 o] w fun e w' => e = .returned (.tuple #[.int .i32 (neu i), .bool true]) ∧ Below w.heap.size w w' := by
  subst ho
  go_enter Try.func23, Try.ntmps23
  go_wp2_with (first | (go_at_call 32; refine (find_in i hi _).mono ?_; rintro e w1 ⟨rfl, hb⟩; simp only [row]))
  go_ret2
  exact ⟨rfl, hb.alloc hb.size _⟩
theorem neutral_not (i : Nat) (hi : i < 20) (hf : fol i = false) (o : Int) (ho : o = (i : Int)) (w : World) : Calls Try.prog 23 #[.int .i64 o] w fun e w' => e = .returned (.tuple #[.int .i32 0, .bool false]) ∧ Below w.heap.size w w' := by
  subst ho
  go_enter Try.func23, Try.ntmps23
  go_wp2_with (first | (go_at_call 32; refine (find_in i hi _).mono ?_; rintro e w1 ⟨rfl, hb⟩; simp only [row]))
  go_ret2
  exact ⟨rfl, hb.alloc hb.size _⟩
theorem neutral_out (o : Int) (h : o < 0 ∨ 20 ≤ o) (w : World) : Calls Try.prog 23 #[.int .i64 o] w fun e w' => e = .returned (.tuple #[.int .i32 0, .bool false]) ∧ Below w.heap.size w w' := by
  go_enter Try.func23, Try.ntmps23
  go_wp2_with (first | (go_at_call 32; refine (find_out o h _).mono ?_; rintro e w1 ⟨rfl, hb⟩; simp only [row0]))
  go_ret2
  exact ⟨rfl, hb.alloc hb.size _⟩

theorem fold_not (i : Nat) (hi : i < 20) (hf : fol i = false) (o : Int) (ho : o = (i : Int)) (a : Option Addr) (l c : Nat) (w : World) : Calls Try.prog 25 #[.int .i64 o, .slice a l c] w fun e w' => e = .returned (.tuple #[.int .i32 0, .bool false]) ∧ Below w.heap.size w w' := by
  subst ho
  go_enter Try.func25, Try.ntmps25
  go_wp2_with (first | (go_at_call 32; refine (find_in i hi _).mono ?_; rintro e w1 ⟨rfl, hb⟩; simp only [row]))
  go_ret2
  exact ⟨rfl, hb.alloc hb.size _⟩
theorem fold_out (o : Int) (h : o < 0 ∨ 20 ≤ o) (a : Option Addr) (l c : Nat) (w : World) : Calls Try.prog 25 #[.int .i64 o, .slice a l c] w fun e w' => e = .returned (.tuple #[.int .i32 0, .bool false]) ∧ Below w.heap.size w w' := by
  go_enter Try.func25, Try.ntmps25
  go_wp2_with (first | (go_at_call 32; refine (find_out o h _).mono ?_; rintro e w1 ⟨rfl, hb⟩; simp only [row0]))
  go_ret2
  exact ⟨rfl, hb.alloc hb.size _⟩

/-- The neutral word, and the fold of a list. -/
def neuB (i : Nat) : BitVec 32 := oI (neu i)
def foldB (i : Nat) (L : List (BitVec 32)) : BitVec 32 := L.foldl (binF i) (neuB i)
theorem foldB_take (i : Nat) (L : List (BitVec 32)) (k : Nat) (h : k < L.length) : foldB i (L.take (k + 1)) = binF i (foldB i (L.take k)) (L.getD k 0#32) := by
  unfold foldB
  rw [List.take_succ_eq_append_getElem h, List.foldl_append]
  simp [List.getD, List.getElem?_eq_getElem h]

/-- What num.Fold does at operator o, given a slice whose elements read as L. -/
def FoldS (i : Nat) (o : Int) : Prop := ∀ (b off cap : Nat) (L : List (BitVec 32)) (w : World), L.length ≤ maxLen → b < w.heap.size →
  (∀ j, j < L.length → w.cell? ⟨b, off + j, none⟩ = some (.int .i32 (sI (L.getD j 0#32)))) →
  Calls Try.prog 25 #[.int .i64 o, .slice (some ⟨b, off, none⟩) L.length cap] w fun e w' => e = .returned (.tuple #[.int .i32 (sI (foldB i L)), .bool true]) ∧ Below w.heap.size w w'
def Fold0 (i : Nat) (o : Int) : Prop := ∀ (a : Option Addr) (cap : Nat) (w : World),
  Calls Try.prog 25 #[.int .i64 o, .slice a 0 cap] w fun e w' => e = .returned (.tuple #[.int .i32 (sI (foldB i [])), .bool true]) ∧ Below w.heap.size w w'

theorem fold0_nil : Fold0 0 0 := by
  intro a cap w
  go_enter Try.func25, Try.ntmps25
  go_wp2_with (first | (go_at_call 32; refine (find_at 0 (by omega) 0 rfl _ rfl _).mono ?_; rintro e w1 ⟨rfl, hb⟩; simp only [row, sgn, com, fol, neu, Nat.reduceAdd]))
  refine wp_loop_rounds 1 ?_
  rw [rounds_succ]
  go_wp2
  go_ret2
  exact ⟨rfl, hb.alloc hb.size _⟩
theorem fold0 : FoldS 0 0 := by
  intro b off cap L w hm hlt hcell
  unfold maxLen at hm
  go_enter Try.func25, Try.ntmps25
  go_wp2_with (first | (go_at_call 32; refine (find_at 0 (by omega) 0 rfl _ rfl _).mono ?_; rintro e w1 ⟨rfl, hb⟩; simp only [row, sgn, com, fol, neu, Nat.reduceAdd]))
  go_loop [8, 27, 10] (fun v t x => ∃ k : Nat, k ≤ L.length ∧ t = .int .i64 k ∧ v = .int .i32 (sI (foldB 0 (L.take k)))) (fun _ t _ => L.length - (intOf t).toNat)
  case atStart => exact ⟨0, Nat.zero_le _, rfl, rfl⟩
  case round =>
    obtain ⟨k, hk, rfl, rfl⟩ := hrel
    by_cases hkl : k < L.length
    · have hx : w1.cell? ⟨b, off + k, none⟩ = some (.int .i32 (sI (L.getD k 0#32))) := (hb.cell (p := ⟨b, off + k, none⟩) hlt).trans (hcell k hkl)
      have hb1 : b < w1.heap.size := Nat.lt_of_lt_of_le hlt hb.size
      have hf := Lib.hid (foldB_take 0 L k hkl)
      revert hf hx
      generalize L.getD k 0#32 = x
      intro hx hf
      clear hcell
      go_wp2_with (go_at_call 40; refine (add_ _ _ _).mono ?_; rintro e w2 ⟨rfl, rfl⟩)
      go_round
      case rel => exact ⟨k + 1, by omega, by go_num, by rw [hf.out]⟩
      case measure => simp [intOf]; omega
    · clear hcell
      go_wp2
      go_ret2
      exact ⟨ret2_i (by rw [List.take_of_length_le (by omega)]), hb.alloc hb.size _⟩
theorem fold5_nil : Fold0 5 5 := by
  intro a cap w
  go_enter Try.func25, Try.ntmps25
  go_wp2_with (first | (go_at_call 32; refine (find_at 5 (by omega) 5 rfl _ rfl _).mono ?_; rintro e w1 ⟨rfl, hb⟩; simp only [row, sgn, com, fol, neu, Nat.reduceAdd]))
  refine wp_loop_rounds 1 ?_
  rw [rounds_succ]
  go_wp2
  go_ret2
  exact ⟨rfl, hb.alloc hb.size _⟩
theorem fold5 : FoldS 5 5 := by
  intro b off cap L w hm hlt hcell
  unfold maxLen at hm
  go_enter Try.func25, Try.ntmps25
  go_wp2_with (first | (go_at_call 32; refine (find_at 5 (by omega) 5 rfl _ rfl _).mono ?_; rintro e w1 ⟨rfl, hb⟩; simp only [row, sgn, com, fol, neu, Nat.reduceAdd]))
  go_loop [8, 27, 10] (fun v t x => ∃ k : Nat, k ≤ L.length ∧ t = .int .i64 k ∧ v = .int .i32 (sI (foldB 5 (L.take k)))) (fun _ t _ => L.length - (intOf t).toNat)
  case atStart => exact ⟨0, Nat.zero_le _, rfl, rfl⟩
  case round =>
    obtain ⟨k, hk, rfl, rfl⟩ := hrel
    by_cases hkl : k < L.length
    · have hx : w1.cell? ⟨b, off + k, none⟩ = some (.int .i32 (sI (L.getD k 0#32))) := (hb.cell (p := ⟨b, off + k, none⟩) hlt).trans (hcell k hkl)
      have hb1 : b < w1.heap.size := Nat.lt_of_lt_of_le hlt hb.size
      have hf := Lib.hid (foldB_take 5 L k hkl)
      revert hf hx
      generalize L.getD k 0#32 = x
      intro hx hf
      clear hcell
      go_wp2_with (go_at_call 45; refine (and_ _ _ _).mono ?_; rintro e w2 ⟨rfl, rfl⟩)
      go_round
      case rel => exact ⟨k + 1, by omega, by go_num, by rw [hf.out]⟩
      case measure => simp [intOf]; omega
    · clear hcell
      go_wp2
      go_ret2
      exact ⟨ret2_i (by rw [List.take_of_length_le (by omega)]), hb.alloc hb.size _⟩
theorem fold6_nil : Fold0 6 6 := by
  intro a cap w
  go_enter Try.func25, Try.ntmps25
  go_wp2_with (first | (go_at_call 32; refine (find_at 6 (by omega) 6 rfl _ rfl _).mono ?_; rintro e w1 ⟨rfl, hb⟩; simp only [row, sgn, com, fol, neu, Nat.reduceAdd]))
  refine wp_loop_rounds 1 ?_
  rw [rounds_succ]
  go_wp2
  go_ret2
  exact ⟨rfl, hb.alloc hb.size _⟩
theorem fold6 : FoldS 6 6 := by
  intro b off cap L w hm hlt hcell
  unfold maxLen at hm
  go_enter Try.func25, Try.ntmps25
  go_wp2_with (first | (go_at_call 32; refine (find_at 6 (by omega) 6 rfl _ rfl _).mono ?_; rintro e w1 ⟨rfl, hb⟩; simp only [row, sgn, com, fol, neu, Nat.reduceAdd]))
  go_loop [8, 27, 10] (fun v t x => ∃ k : Nat, k ≤ L.length ∧ t = .int .i64 k ∧ v = .int .i32 (sI (foldB 6 (L.take k)))) (fun _ t _ => L.length - (intOf t).toNat)
  case atStart => exact ⟨0, Nat.zero_le _, rfl, rfl⟩
  case round =>
    obtain ⟨k, hk, rfl, rfl⟩ := hrel
    by_cases hkl : k < L.length
    · have hx : w1.cell? ⟨b, off + k, none⟩ = some (.int .i32 (sI (L.getD k 0#32))) := (hb.cell (p := ⟨b, off + k, none⟩) hlt).trans (hcell k hkl)
      have hb1 : b < w1.heap.size := Nat.lt_of_lt_of_le hlt hb.size
      have hf := Lib.hid (foldB_take 6 L k hkl)
      revert hf hx
      generalize L.getD k 0#32 = x
      intro hx hf
      clear hcell
      go_wp2_with (go_at_call 46; refine (or_ _ _ _).mono ?_; rintro e w2 ⟨rfl, rfl⟩)
      go_round
      case rel => exact ⟨k + 1, by omega, by go_num, by rw [hf.out]⟩
      case measure => simp [intOf]; omega
    · clear hcell
      go_wp2
      go_ret2
      exact ⟨ret2_i (by rw [List.take_of_length_le (by omega)]), hb.alloc hb.size _⟩
theorem fold7_nil : Fold0 7 7 := by
  intro a cap w
  go_enter Try.func25, Try.ntmps25
  go_wp2_with (first | (go_at_call 32; refine (find_at 7 (by omega) 7 rfl _ rfl _).mono ?_; rintro e w1 ⟨rfl, hb⟩; simp only [row, sgn, com, fol, neu, Nat.reduceAdd]))
  refine wp_loop_rounds 1 ?_
  rw [rounds_succ]
  go_wp2
  go_ret2
  exact ⟨rfl, hb.alloc hb.size _⟩
theorem fold7 : FoldS 7 7 := by
  intro b off cap L w hm hlt hcell
  unfold maxLen at hm
  go_enter Try.func25, Try.ntmps25
  go_wp2_with (first | (go_at_call 32; refine (find_at 7 (by omega) 7 rfl _ rfl _).mono ?_; rintro e w1 ⟨rfl, hb⟩; simp only [row, sgn, com, fol, neu, Nat.reduceAdd]))
  go_loop [8, 27, 10] (fun v t x => ∃ k : Nat, k ≤ L.length ∧ t = .int .i64 k ∧ v = .int .i32 (sI (foldB 7 (L.take k)))) (fun _ t _ => L.length - (intOf t).toNat)
  case atStart => exact ⟨0, Nat.zero_le _, rfl, rfl⟩
  case round =>
    obtain ⟨k, hk, rfl, rfl⟩ := hrel
    by_cases hkl : k < L.length
    · have hx : w1.cell? ⟨b, off + k, none⟩ = some (.int .i32 (sI (L.getD k 0#32))) := (hb.cell (p := ⟨b, off + k, none⟩) hlt).trans (hcell k hkl)
      have hb1 : b < w1.heap.size := Nat.lt_of_lt_of_le hlt hb.size
      have hf := Lib.hid (foldB_take 7 L k hkl)
      revert hf hx
      generalize L.getD k 0#32 = x
      intro hx hf
      clear hcell
      go_wp2_with (go_at_call 47; refine (xor_ _ _ _).mono ?_; rintro e w2 ⟨rfl, rfl⟩)
      go_round
      case rel => exact ⟨k + 1, by omega, by go_num, by rw [hf.out]⟩
      case measure => simp [intOf]; omega
    · clear hcell
      go_wp2
      go_ret2
      exact ⟨ret2_i (by rw [List.take_of_length_le (by omega)]), hb.alloc hb.size _⟩
theorem fold18_nil : Fold0 18 18 := by
  intro a cap w
  go_enter Try.func25, Try.ntmps25
  go_wp2_with (first | (go_at_call 32; refine (find_at 18 (by omega) 18 rfl _ rfl _).mono ?_; rintro e w1 ⟨rfl, hb⟩; simp only [row, sgn, com, fol, neu, Nat.reduceAdd]))
  refine wp_loop_rounds 1 ?_
  rw [rounds_succ]
  go_wp2
  go_ret2
  exact ⟨rfl, hb.alloc hb.size _⟩
theorem fold18 : FoldS 18 18 := by
  intro b off cap L w hm hlt hcell
  unfold maxLen at hm
  go_enter Try.func25, Try.ntmps25
  go_wp2_with (first | (go_at_call 32; refine (find_at 18 (by omega) 18 rfl _ rfl _).mono ?_; rintro e w1 ⟨rfl, hb⟩; simp only [row, sgn, com, fol, neu, Nat.reduceAdd]))
  go_loop [8, 27, 10] (fun v t x => ∃ k : Nat, k ≤ L.length ∧ t = .int .i64 k ∧ v = .int .i32 (sI (foldB 18 (L.take k)))) (fun _ t _ => L.length - (intOf t).toNat)
  case atStart => exact ⟨0, Nat.zero_le _, rfl, rfl⟩
  case round =>
    obtain ⟨k, hk, rfl, rfl⟩ := hrel
    by_cases hkl : k < L.length
    · have hx : w1.cell? ⟨b, off + k, none⟩ = some (.int .i32 (sI (L.getD k 0#32))) := (hb.cell (p := ⟨b, off + k, none⟩) hlt).trans (hcell k hkl)
      have hb1 : b < w1.heap.size := Nat.lt_of_lt_of_le hlt hb.size
      have hf := Lib.hid (foldB_take 18 L k hkl)
      revert hf hx
      generalize L.getD k 0#32 = x
      intro hx hf
      clear hcell
      go_wp2_with (go_at_call 58; refine (smaller_ _ _ _).mono ?_; rintro e w2 ⟨rfl, rfl⟩)
      go_round
      case rel => exact ⟨k + 1, by omega, by go_num, by rw [hf.out]⟩
      case measure => simp [intOf]; omega
    · clear hcell
      go_wp2
      go_ret2
      exact ⟨ret2_i (by rw [List.take_of_length_le (by omega)]), hb.alloc hb.size _⟩
theorem fold19_nil : Fold0 19 19 := by
  intro a cap w
  go_enter Try.func25, Try.ntmps25
  go_wp2_with (first | (go_at_call 32; refine (find_at 19 (by omega) 19 rfl _ rfl _).mono ?_; rintro e w1 ⟨rfl, hb⟩; simp only [row, sgn, com, fol, neu, Nat.reduceAdd]))
  refine wp_loop_rounds 1 ?_
  rw [rounds_succ]
  go_wp2
  go_ret2
  exact ⟨rfl, hb.alloc hb.size _⟩
theorem fold19 : FoldS 19 19 := by
  intro b off cap L w hm hlt hcell
  unfold maxLen at hm
  go_enter Try.func25, Try.ntmps25
  go_wp2_with (first | (go_at_call 32; refine (find_at 19 (by omega) 19 rfl _ rfl _).mono ?_; rintro e w1 ⟨rfl, hb⟩; simp only [row, sgn, com, fol, neu, Nat.reduceAdd]))
  go_loop [8, 27, 10] (fun v t x => ∃ k : Nat, k ≤ L.length ∧ t = .int .i64 k ∧ v = .int .i32 (sI (foldB 19 (L.take k)))) (fun _ t _ => L.length - (intOf t).toNat)
  case atStart => exact ⟨0, Nat.zero_le _, rfl, rfl⟩
  case round =>
    obtain ⟨k, hk, rfl, rfl⟩ := hrel
    by_cases hkl : k < L.length
    · have hx : w1.cell? ⟨b, off + k, none⟩ = some (.int .i32 (sI (L.getD k 0#32))) := (hb.cell (p := ⟨b, off + k, none⟩) hlt).trans (hcell k hkl)
      have hb1 : b < w1.heap.size := Nat.lt_of_lt_of_le hlt hb.size
      have hf := Lib.hid (foldB_take 19 L k hkl)
      revert hf hx
      generalize L.getD k 0#32 = x
      intro hx hf
      clear hcell
      go_wp2_with (go_at_call 59; refine (greater_ _ _ _).mono ?_; rintro e w2 ⟨rfl, rfl⟩)
      go_round
      case rel => exact ⟨k + 1, by omega, by go_num, by rw [hf.out]⟩
      case measure => simp [intOf]; omega
    · clear hcell
      go_wp2
      go_ret2
      exact ⟨ret2_i (by rw [List.take_of_length_le (by omega)]), hb.alloc hb.size _⟩

theorem fold_any (i : Nat) (hi : i < 20) (hf : fol i = true) : FoldS i i ∧ Fold0 i i := by
  have h : i = 0 ∨ i = 5 ∨ i = 6 ∨ i = 7 ∨ i = 18 ∨ i = 19 := by
    revert hf
    revert i
    decide
  rcases h with rfl | rfl | rfl | rfl | rfl | rfl
  · exact ⟨fold0, fold0_nil⟩
  · exact ⟨fold5, fold5_nil⟩
  · exact ⟨fold6, fold6_nil⟩
  · exact ⟨fold7, fold7_nil⟩
  · exact ⟨fold18, fold18_nil⟩
  · exact ⟨fold19, fold19_nil⟩
end Go.Proofs.Ytdlfgfghjdobjaa.Num
