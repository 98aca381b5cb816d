import Derived.Test.YtdlfgfghjdobjaaRBoth
import Derived.RegionTactic
/- The reference's both at Xor: its statement leaves an order open. -/
namespace Go.Proofs.Ytdlfgfghjdobjaa.Num
open Go.ChangeShapes Go.WideShapes Go.ChangeAt Go.RowKit

theorem cell_heap {w w' : World} (h : w'.heap = w.heap) (a : Addr) : w'.cell? a = w.cell? a := by simp [World.cell?, h]
theorem frozen_heap {w w' : World} (h : w'.heap = w.heap) (a : Addr) : w'.frozen? a = w.frozen? a := by simp [World.frozen?, h]
theorem setCell_heap {w w' : World} (h : w'.heap = w.heap) (a : Addr) (v : Value) : (w'.setCell a v).heap = (w.setCell a v).heap := by simp [World.setCell, h]

/-- Three arrays of the call's own. -/
def three (w : World) (FA FB FC : Array Value) : World := ((w.alloc (.cells FA 57)).alloc (.cells FB 57)).alloc (.cells FC 57)
theorem three_a (w : World) (FA FB FC : Array Value) (k : Nat) : (three w FA FB FC).cell? ⟨w.heap.size, k, none⟩ = FA[k]? := by
  unfold three
  rw [World.cell?_alloc_past _ _ _ (by simp; omega), World.cell?_alloc_past _ _ _ (by simp), World.cell?_alloc_at _ _ _ _ rfl]
theorem three_b (w : World) (FA FB FC : Array Value) (k : Nat) : (three w FA FB FC).cell? ⟨w.heap.size + 1, k, none⟩ = FB[k]? := by
  unfold three
  rw [World.cell?_alloc_past _ _ _ (by simp), World.cell?_alloc_at _ _ _ _ (by simp)]
theorem three_c (w : World) (FA FB FC : Array Value) (k : Nat) : (three w FA FB FC).cell? ⟨w.heap.size + 1 + 1, k, none⟩ = FC[k]? := by
  unfold three
  rw [World.cell?_alloc_at _ _ _ _ (by simp)]
theorem three_f (w : World) (FA FB FC : Array Value) (k : Nat) : (three w FA FB FC).frozen? ⟨w.heap.size + 1 + 1, k, none⟩ = false := by
  unfold three
  exact World.frozen?_alloc_at _ _ _ _ (by simp)
theorem three_set (w : World) (FA FB FC : Array Value) (k : Nat) (v : Value) : (three w FA FB FC).setCell ⟨w.heap.size + 1 + 1, k, none⟩ v = three w FA FB (FC.setIfInBounds k v) := by
  unfold three
  rw [World.setCell_alloc_at _ _ _ _ _ (by simp)]
theorem three_row (w : World) (FA FB FC : Array Value) : (three w FA FB FC).heap[w.heap.size + 1 + 1]? = some (.cells FC 57 (0, 0)) := by
  unfold three
  have h := heap_alloc_last ((w.alloc (.cells FA 57)).alloc (.cells FB 57)) (.cells FC 57)
  simpa using h
theorem three_below (w : World) (FA FB FC : Array Value) : Below w.heap.size w (three w FA FB FC) :=
  (((Below.refl _ _).alloc (Nat.le_refl _) _).alloc (by simp) _).alloc (by simp; omega) _

set_option maxRecDepth 100000 in
theorem rboth7 (A B : BitVec 32) (w : World) : Calls Try.prog 35 #[.int .i64 7, .int .i32 (sI A), .int .i32 (sI B)] w fun e w' => e = .returned (.int .i32 (sI (binF 7 A B))) ∧ Below w.heap.size w w' := by
  go_enter Try.func35, Try.ntmps35
  go_wp2_with fail
  refine (rbits_ A _).mono ?_
  rintro e w1 ⟨rfl, h1⟩
  go_wp2_with fail
  refine (rbits_ B _).mono ?_
  rintro e w2 ⟨rfl, h2⟩
  go_wp2_with (first
    | (refine store_under rfl 57 (.tmp 7) (.tmp 12) rfl rfl w2.heap.size rfl (fill (bitsOf A) 32) rfl rfl 57 _ (by rw [info57, fill_size]) (by rw [fill_size]; rfl) (fill_one _ _) ?_)
    | (refine store_new rfl 57 (.tmp 8) (.tmp 14) rfl rfl (w2.heap.size + 1) (by simp) (fill (bitsOf B) 32) rfl rfl 57 _ (by rw [info57, fill_size]) (by rw [fill_size]; rfl) (fill_one _ _) ?_))
  have HFA := Lib.hid (fun k (h : k < 32) => fill_old (bitsOf A) 32 k h (Nat.le_refl _))
  have HFB := Lib.hid (fun k (h : k < 32) => fill_old (bitsOf B) 32 k h (Nat.le_refl _))
  revert HFA HFB
  generalize fill (bitsOf A) 32 = FA
  generalize fill (bitsOf B) 32 = FB
  intro HFA HFB
  go_loopw [10] (fun t wr => ∃ k : Nat, k ≤ 32 ∧ t = .int .i64 k ∧ wr.heap = (three w2 FA FB (fill (bitsOf (binF 7 A B)) k)).heap ∧ Below w2.heap.size w2 wr) (fun t _ => 32 - (intOf t).toNat)
  case atStart => exact ⟨0, by omega, rfl, by rw [fill_zero]; rfl, (((Below.refl _ _).alloc (Nat.le_refl _) _).alloc (by simp) _).alloc (by simp; omega) _⟩
  case round =>
    obtain ⟨k, hk, rfl, hheap, hbel⟩ := hrel
    by_cases hk32 : k < 32
    · have hx : wr.cell? ⟨w2.heap.size, k, none⟩ = some (.bool (bitsOf A k)) := by rw [cell_heap hheap, three_a, HFA.out k hk32]
      have hy : wr.cell? ⟨w2.heap.size + 1, k, none⟩ = some (.bool (bitsOf B k)) := by rw [cell_heap hheap, three_b, HFB.out k hk32]
      have hn : wr.cell? ⟨w2.heap.size + 1 + 1, k, none⟩ = some (.bool false) := by rw [cell_heap hheap, three_c, fill_new _ k hk32]
      have hz : wr.frozen? ⟨w2.heap.size + 1 + 1, k, none⟩ = false := by rw [frozen_heap hheap, three_f]
      have HS := Lib.hid (fill_set (bitsOf (binF 7 A B)) k (!(bitsOf A k == bitsOf B k)) (by have h := bits_of_xor A B k; revert h; cases bitsOf A k <;> cases bitsOf B k <;> intro h <;> exact h.symm))
      have HH := Lib.hid hheap
      revert hx hy HS
      generalize bitsOf A k = ba
      generalize bitsOf B k = bb
      intro hx hy HS
      clear hheap
      go_wp2
      go_region
      all_goals
        go_wp2
        go_roundw
        case rel => exact ⟨k + 1, by omega, by go_num, (setCell_heap HH.out _ _).trans (by rw [three_set, HS.out]), (hbel.setCell (by simp; omega) _).drew⟩
        case measure => simp [intOf]; omega
    · obtain rfl : k = 32 := by omega
      have hr : wr.heap[w2.heap.size + 1 + 1]? = some (.cells (fill (bitsOf (binF 7 A B)) 32) 57 (0, 0)) := by rw [hheap]; exact three_row _ _ _ _
      have HR := Lib.hid hr
      clear hk32 hk hheap hr
      go_wp2_with (first
        | (refine wpList_load_row rfl 57 _ rfl (w2.heap.size + 1 + 1) rfl 57 (fill (bitsOf (binF 7 A B)) 32) (0, 0) _ HR.out Try.underlying57 rfl (by rw [info57, fill_size]) ?_)
        | (go_at_call 61; refine (rword_ (binF 7 A B) _).mono ?_; rintro e w3 ⟨rfl, h3⟩))
      go_ret
      exact ⟨rfl, seq (seq h1 h2) (seq hbel h3)⟩
end Go.Proofs.Ytdlfgfghjdobjaa.Num
