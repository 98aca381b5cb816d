import Derived.Test.YtdlfgfghjdobjaaRBin
import Derived.Test.YtdlfgfghjdobjaaFoldAlg
import Derived.LoopTactic
/- The reference's Fold; the walk of the law of folds over words. -/
namespace Go.Proofs.Ytdlfgfghjdobjaa.Num
open Go.ChangeShapes Go.WideShapes Go.ChangeAt Go.RowKit

theorem rfold_not (i : Nat) (hi : i < 20) (hf : fol i = false) (V : Value) (w : World) : Calls Try.prog 26 #[.int .i64 (i : Int), V] w fun e w' => e = .returned (.tuple #[.int .i32 0, .bool false]) ∧ Below w.heap.size w w' := by
  have C := rneu_in i hi
  unfold RNeu at C
  rw [hf] at C
  have H := Lib.hid C
  clear C hf
  go_enter Try.func26, Try.ntmps26
  go_wp2_with (go_at_call 24; refine (H.out _).mono ?_; rintro e w1 ⟨rfl, rfl⟩)
  go_ret2
  exact ⟨rfl, Below.refl _ _⟩
theorem rfold_out (o : Int) (h : o < 0 ∨ 20 ≤ o) (V : Value) (w : World) : Calls Try.prog 26 #[.int .i64 o, V] w fun e w' => e = .returned (.tuple #[.int .i32 0, .bool false]) ∧ Below w.heap.size w w' := by
  have H := Lib.hid (rneu_out o h)
  clear h
  go_enter Try.func26, Try.ntmps26
  go_wp2_with (go_at_call 24; refine (H.out _).mono ?_; rintro e w1 ⟨rfl, rfl⟩)
  go_ret2
  exact ⟨rfl, Below.refl _ _⟩
theorem rneu_fol (i : Nat) (hi : i < 20) (hf : fol i = true) (w : World) : Calls Try.prog 24 #[.int .i64 (i : Int)] w fun e w' => e = .returned (.tuple #[.int .i32 (sI (neuB i)), .bool true]) ∧ w = w' := by
  have C := rneu_in i hi w
  have e : neuV i = sI (neuB i) := by unfold neuV; rw [if_pos hf]; exact neu_sI i hi hf
  rw [hf, e] at C
  exact C
theorem rfold_nil (i : Nat) (hi : i < 20) (hf : fol i = true) (a : Option Addr) (cap : Nat) (w : World) : Calls Try.prog 26 #[.int .i64 (i : Int), .slice a 0 cap] w fun e w' => e = .returned (.tuple #[.int .i32 (sI (foldB i [])), .bool true]) ∧ Below w.heap.size w w' := by
  have H := Lib.hid (rneu_fol i hi hf)
  clear hf
  go_enter Try.func26, Try.ntmps26
  go_wp2_with (go_at_call 24; refine (H.out _).mono ?_; rintro e w1 ⟨rfl, rfl⟩)
  refine wp_loop_rounds 1 ?_
  rw [rounds_succ]
  go_wp2
  go_ret2
  exact ⟨rfl, Below.refl _ _⟩
theorem rfold_cells (i : Nat) (hi : i < 20) (hf : fol i = true) (b off cap : Nat) (L : List (BitVec 32)) (w : World) (hm : L.length ≤ maxLen) (hlt : b < w.heap.size)
    (hcell : ∀ j, j < L.length → w.cell? ⟨b, off + j, none⟩ = some (.int .i32 (sI (L.getD j 0#32)))) :
    Calls Try.prog 26 #[.int .i64 (i : Int), .slice (some ⟨b, off, none⟩) L.length cap] w fun e w' => e = .returned (.tuple #[.int .i32 (sI (foldB i L)), .bool true]) ∧ Below w.heap.size w w' := by
  unfold maxLen at hm
  have H := Lib.hid (rneu_fol i hi hf)
  have HB := Lib.hid (rbin_in i hi)
  clear hf
  go_enter Try.func26, Try.ntmps26
  go_wp2_with (go_at_call 24; refine (H.out _).mono ?_; rintro e w1 ⟨rfl, rfl⟩)
  go_loopw [6, 8] (fun v t wr => ∃ k : Nat, k ≤ L.length ∧ t = .int .i64 k ∧ v = .int .i32 (sI (foldB i (L.take k))) ∧ Below w.heap.size w wr) (fun _ t _ => L.length - (intOf t).toNat)
  case atStart => exact ⟨0, Nat.zero_le _, rfl, rfl, Below.refl _ _⟩
  case round =>
    obtain ⟨k, hk, rfl, rfl, hbr⟩ := hrel
    by_cases hkl : k < L.length
    · have hx : wr.cell? ⟨b, off + k, none⟩ = some (.int .i32 (sI (L.getD k 0#32))) := (hbr.cell (p := ⟨b, off + k, none⟩) hlt).trans (hcell k hkl)
      have hf := Lib.hid (foldB_take i L k hkl)
      revert hx hf
      generalize L.getD k 0#32 = x
      generalize foldB i (L.take k) = acc
      intro hx hf
      clear hcell
      go_wp2_with (go_at_call 13; refine (HB.out acc x _).mono ?_; rintro e w2 ⟨rfl, h2⟩)
      go_roundw
      case rel => exact ⟨k + 1, by omega, by go_num, by rw [hf.out], seq hbr h2⟩
      case measure => simp [intOf]; omega
    · clear hcell
      go_wp2
      go_ret2
      exact ⟨ret2_i (by rw [List.take_of_length_le (by omega)]), hbr⟩
theorem rfold_rd (i : Nat) (hi : i < 20) (hf : fol i = true) (X : Value) (L : List (BitVec 32)) (w : World) (hm : L.length ≤ maxLen) (h : Rd w X L) :
    Calls Try.prog 26 #[.int .i64 (i : Int), X] w fun e w' => e = .returned (.tuple #[.int .i32 (sI (foldB i L)), .bool true]) ∧ Below w.heap.size w w' := by
  rcases h with ⟨hX, hL⟩ | ⟨x, c, hX, hc⟩
  · subst hX; subst hL; exact rfold_nil i hi hf none 0 w
  · subst hX
    cases L with
    | nil => exact rfold_nil i hi hf (some x) c w
    | cons A r =>
      have h1 := hc 0 _ (cellsOf_get (A :: r) 0 (by simp))
      obtain ⟨b, off, sp⟩ := x
      have hsp : sp = none := by simpa [Addr.add] using World.cell?_spot h1
      subst hsp
      have hb : b < w.heap.size := World.block_lt_of_cell? w ⟨b, off, none⟩ (by simpa [Addr.add] using h1)
      refine rfold_cells i hi hf b off c (A :: r) w hm hb fun j hj => ?_
      have e := hc j _ (cellsOf_get (A :: r) j hj)
      rw [Addr.add_mid] at e
      exact e

theorem folds_law (o : Int) (V : Value) (a c : Bool) (x y : Int) (w : World)
    (C1 : ∀ w, Calls Try.prog 23 #[.int .i64 o] w fun e w' => e = .returned (.tuple #[.int .i32 x, .bool a]) ∧ Below w.heap.size w w')
    (C2 : ∀ w, Calls Try.prog 24 #[.int .i64 o] w fun e w' => e = .returned (.tuple #[.int .i32 x, .bool a]) ∧ w = w')
    (C3 : ∀ w', Below w.heap.size w w' → Calls Try.prog 25 #[.int .i64 o, V] w' fun e w'' => e = .returned (.tuple #[.int .i32 y, .bool c]) ∧ Below w'.heap.size w' w'')
    (C4 : ∀ w', Below w.heap.size w w' → Calls Try.prog 26 #[.int .i64 o, V] w' fun e w'' => e = .returned (.tuple #[.int .i32 y, .bool c]) ∧ Below w'.heap.size w' w'')
    (C5 : ∀ w, Calls Try.prog 27 #[.int .i64 o] w fun e w' => e = .returned (.bool a) ∧ Below w.heap.size w w')
    (C6 : ∀ w, Calls Try.prog 28 #[.int .i64 o] w fun e w' => e = .returned (.bool a) ∧ w = w') :
    Calls Try.prog 5 #[.int .i64 o, V] w fun e w' => e = .returned (.bool true) ∧ Below w.heap.size w w' := by
  have H1 := Lib.hid C1
  have H2 := Lib.hid C2
  have H3 := Lib.hid C3
  have H4 := Lib.hid C4
  have H5 := Lib.hid C5
  have H6 := Lib.hid C6
  clear C1 C2 C3 C4 C5 C6
  go_enter Try.func5, Try.ntmps5
  go_wp2_with fail
  refine (H1.out _).mono ?_
  rintro e w1 ⟨rfl, h1⟩
  go_wp2_with fail
  refine (H2.out _).mono ?_
  rintro e w2 ⟨rfl, rfl⟩
  go_wp2_with fail
  refine (H3.out _ h1).mono ?_
  rintro e w3 ⟨rfl, h3⟩
  go_wp2_with fail
  refine (H4.out _ (seq h1 h3)).mono ?_
  rintro e w4 ⟨rfl, h4⟩
  go_wp2_with fail
  refine (H5.out _).mono ?_
  rintro e w5 ⟨rfl, h5⟩
  go_wp2_with fail
  refine (H6.out _).mono ?_
  rintro e w6 ⟨rfl, rfl⟩
  go_wp2_with fail
  refine (awake_ _).mono ?_
  rintro e w7 ⟨rfl, h7⟩
  go_wp2
  go_ret
  exact ⟨rfl, seq (seq (seq (seq h1 h3) h4) h5) h7⟩
theorem folds_walk (o : Int) (a1 : Option Addr) (len1 cap1 : Nat) (L : List (BitVec 32)) (w : World) (hm : L.length ≤ maxLen) (h : Rd w (.slice a1 len1 cap1) L) :
    Calls Try.prog 5 #[.int .i64 o, .slice a1 len1 cap1] w fun e w' => e = .returned (.bool true) ∧ Below w.heap.size w w' := by
  by_cases ho : o < 0 ∨ 20 ≤ o
  · exact folds_law o _ false false 0 0 w (neutral_out o ho) (rneu_out o ho) (fun w' _ => fold_out o ho _ _ _ w') (fun w' _ => rfold_out o ho _ w') (folds_out o ho) (rfolds_out o ho)
  · obtain ⟨i, rfl⟩ : ∃ i : Nat, o = (i : Int) := ⟨o.toNat, by omega⟩
    have hi : i < 20 := by omega
    have C5 := folds_in i hi i rfl
    have C6 := rfolds_in i hi i rfl
    cases hf : fol i
    · rw [hf] at C5 C6
      have C2 := rneu_in i hi
      unfold RNeu at C2
      rw [hf, show neuV i = 0 from by unfold neuV; rw [hf]; rfl] at C2
      exact folds_law _ _ false false 0 0 w (neutral_not i hi hf i rfl) C2 (fun w' _ => fold_not i hi hf i rfl _ _ _ w') (fun w' _ => rfold_not i hi hf _ w') C5 C6
    · rw [hf] at C5 C6
      have C1 := neutral_in i hi hf i rfl
      rw [neu_sI i hi hf] at C1
      exact folds_law _ _ true true _ _ w C1 (rneu_fol i hi hf) (fun w' hb => fold_rd i hi hf i rfl _ L w' hm (h.below hb)) (fun w' hb => rfold_rd i hi hf _ L w' hm (h.below hb)) C5 C6
end Go.Proofs.Ytdlfgfghjdobjaa.Num
