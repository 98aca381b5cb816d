import Derived.Test.YtdlfgfghjdobjaaRBits
/- The reference's both: two words combined bit by bit. -/
namespace Go.Proofs.Ytdlfgfghjdobjaa.Num
open Go.ChangeShapes Go.WideShapes Go.ChangeAt Go.RowKit

/-- A whole array out of the block that was made last. -/
theorem load_new {P : Program} {ops : Array Oper} {rest : List Oper} {o : Oper} {a : Act} {w : World} {Q : Exit → Act → World → Prop} (hgd : o.guard = none) (ty : TypeId) (x : Operand) (ho : o.op = .load ty x)
    (g : Nat) (hgw : g = w.heap.size) (cells : Array Value) (hx : a.eval x = .pointer (some ⟨g, 0, none⟩)) (t : TypeId) (d : TypeDesc) (hu : P.underlying ty = some d) (hd : (match d with | .struct _ | .array _ _ => true | _ => false) = true)
    (hi : (P.info? ty).map (·.size) = some cells.size)
    (h : wpList P ops Q rest (a.put o.dst (.agg cells)) (w.alloc (.cells cells t))) : wpList P ops Q (o :: rest) a (w.alloc (.cells cells t)) := by
  subst hgw
  exact wpList_load_row hgd ty x ho w.heap.size hx t cells (0, 0) d (heap_alloc_last w _) hu hd hi h

theorem fill_zero (f : Nat → Bool) : fill f 0 = Array.replicate 32 (Value.bool false) := by
  unfold fill
  apply Array.ext'
  simp
  rfl

theorem bits_of_and (A B : BitVec 32) (k : Nat) : bitsOf (binF 5 A B) k = (bitsOf A k && bitsOf B k) := BitVec.getLsbD_and
theorem bits_of_or (A B : BitVec 32) (k : Nat) : bitsOf (binF 6 A B) k = (bitsOf A k || bitsOf B k) := BitVec.getLsbD_or
theorem bits_of_xor (A B : BitVec 32) (k : Nat) : bitsOf (binF 7 A B) k = (bitsOf A k ^^ bitsOf B k) := BitVec.getLsbD_xor

set_option maxRecDepth 100000 in
theorem rboth5 (A B : BitVec 32) (w : World) : Calls Try.prog 35 #[.int .i64 5, .int .i32 (sI A), .int .i32 (sI B)] w fun e w' => e = .returned (.int .i32 (sI (binF 5 A B))) ∧ Below w.heap.size w w' := by
  go_enter Try.func35, Try.ntmps35
  go_wp2_with fail
  refine (rbits_ A _).mono ?_
  rintro e w1 ⟨rfl, h1⟩
  go_wp2_with fail
  refine (rbits_ B _).mono ?_
  rintro e w2 ⟨rfl, h2⟩
  go_wp2_with (first
    | (refine store_under rfl 57 (.tmp 7) (.tmp 12) rfl rfl w2.heap.size rfl (fill (bitsOf A) 32) rfl rfl 57 _ (by rw [info57, fill_size]) (by rw [fill_size]; rfl) (fill_one _ _) ?_)
    | (refine store_new rfl 57 (.tmp 8) (.tmp 14) rfl rfl (w2.heap.size + 1) (by simp) (fill (bitsOf B) 32) rfl rfl 57 _ (by rw [info57, fill_size]) (by rw [fill_size]; rfl) (fill_one _ _) ?_))
  have HFA := Lib.hid (fun k (h : k < 32) => fill_old (bitsOf A) 32 k h (Nat.le_refl _))
  have HFB := Lib.hid (fun k (h : k < 32) => fill_old (bitsOf B) 32 k h (Nat.le_refl _))
  revert HFA HFB
  generalize fill (bitsOf A) 32 = FA
  generalize fill (bitsOf B) 32 = FB
  intro HFA HFB
  go_loopw [10] (fun t wr => ∃ k : Nat, k ≤ 32 ∧ t = .int .i64 k ∧ wr = ((w2.alloc (.cells FA 57)).alloc (.cells FB 57)).alloc (.cells (fill (bitsOf (binF 5 A B)) k) 57)) (fun t _ => 32 - (intOf t).toNat)
  case atStart => exact ⟨0, by omega, rfl, by rw [fill_zero]; rfl⟩
  case round =>
    obtain ⟨k, hk, rfl, rfl⟩ := hrel
    by_cases hk32 : k < 32
    · have hy := HFB.out k hk32
      have hn := fill_new (bitsOf (binF 5 A B)) k hk32
      have hz := fill_size (bitsOf (binF 5 A B)) k
      cases hA : bitsOf A k
      · have hx : FA[k]? = some (.bool false) := by rw [HFA.out k hk32, hA]
        have HS := Lib.hid (fill_set (bitsOf (binF 5 A B)) k false (by rw [bits_of_and, hA]; simp))
        revert HS hn hz
        generalize bitsOf B k = bb at hy
        intro hn hz HS
        clear hA
        go_wp2
        go_roundw
        case rel => exact ⟨k + 1, by omega, by go_num, by rw [HS.out]⟩
        case measure => simp [intOf]; omega
      · have hx : FA[k]? = some (.bool true) := by rw [HFA.out k hk32, hA]
        have HS := Lib.hid (fill_set (bitsOf (binF 5 A B)) k (bitsOf B k) (by rw [bits_of_and, hA]; simp))
        revert HS hn hz
        generalize bitsOf B k = bb at hy
        intro hn hz HS
        clear hA
        go_wp2
        go_roundw
        case rel => exact ⟨k + 1, by omega, by go_num, by rw [HS.out]⟩
        case measure => simp [intOf]; omega
    · obtain rfl : k = 32 := by omega
      clear hk32 hk
      go_wp2_with (first
        | (refine load_new rfl 57 _ rfl (w2.heap.size + 1 + 1) (by simp) (fill (bitsOf (binF 5 A B)) 32) rfl 57 _ Try.underlying57 rfl (by rw [info57, fill_size]) ?_)
        | (go_at_call 61; refine (rword_ (binF 5 A B) _).mono ?_; rintro e w3 ⟨rfl, h3⟩))
      go_ret
      exact ⟨rfl, seq (seq h1 h2) ((((Below.refl _ _).alloc (Nat.le_refl _) _).alloc (by simp) _).alloc (by simp; omega) _ |>.trans (h3.mono (by simp; omega)))⟩

set_option maxRecDepth 100000 in
theorem rboth6 (A B : BitVec 32) (w : World) : Calls Try.prog 35 #[.int .i64 6, .int .i32 (sI A), .int .i32 (sI B)] w fun e w' => e = .returned (.int .i32 (sI (binF 6 A B))) ∧ Below w.heap.size w w' := by
  go_enter Try.func35, Try.ntmps35
  go_wp2_with fail
  refine (rbits_ A _).mono ?_
  rintro e w1 ⟨rfl, h1⟩
  go_wp2_with fail
  refine (rbits_ B _).mono ?_
  rintro e w2 ⟨rfl, h2⟩
  go_wp2_with (first
    | (refine store_under rfl 57 (.tmp 7) (.tmp 12) rfl rfl w2.heap.size rfl (fill (bitsOf A) 32) rfl rfl 57 _ (by rw [info57, fill_size]) (by rw [fill_size]; rfl) (fill_one _ _) ?_)
    | (refine store_new rfl 57 (.tmp 8) (.tmp 14) rfl rfl (w2.heap.size + 1) (by simp) (fill (bitsOf B) 32) rfl rfl 57 _ (by rw [info57, fill_size]) (by rw [fill_size]; rfl) (fill_one _ _) ?_))
  have HFA := Lib.hid (fun k (h : k < 32) => fill_old (bitsOf A) 32 k h (Nat.le_refl _))
  have HFB := Lib.hid (fun k (h : k < 32) => fill_old (bitsOf B) 32 k h (Nat.le_refl _))
  revert HFA HFB
  generalize fill (bitsOf A) 32 = FA
  generalize fill (bitsOf B) 32 = FB
  intro HFA HFB
  go_loopw [10] (fun t wr => ∃ k : Nat, k ≤ 32 ∧ t = .int .i64 k ∧ wr = ((w2.alloc (.cells FA 57)).alloc (.cells FB 57)).alloc (.cells (fill (bitsOf (binF 6 A B)) k) 57)) (fun t _ => 32 - (intOf t).toNat)
  case atStart => exact ⟨0, by omega, rfl, by rw [fill_zero]; rfl⟩
  case round =>
    obtain ⟨k, hk, rfl, rfl⟩ := hrel
    by_cases hk32 : k < 32
    · have hy := HFB.out k hk32
      have hn := fill_new (bitsOf (binF 6 A B)) k hk32
      have hz := fill_size (bitsOf (binF 6 A B)) k
      cases hA : bitsOf A k
      · have hx : FA[k]? = some (.bool false) := by rw [HFA.out k hk32, hA]
        have HS := Lib.hid (fill_set (bitsOf (binF 6 A B)) k (bitsOf B k) (by rw [bits_of_or, hA]; simp))
        revert HS hn hz
        generalize bitsOf B k = bb at hy
        intro hn hz HS
        clear hA
        go_wp2
        go_roundw
        case rel => exact ⟨k + 1, by omega, by go_num, by rw [HS.out]⟩
        case measure => simp [intOf]; omega
      · have hx : FA[k]? = some (.bool true) := by rw [HFA.out k hk32, hA]
        have HS := Lib.hid (fill_set (bitsOf (binF 6 A B)) k true (by rw [bits_of_or, hA]; simp))
        revert HS hn hz
        generalize bitsOf B k = bb at hy
        intro hn hz HS
        clear hA
        go_wp2
        go_roundw
        case rel => exact ⟨k + 1, by omega, by go_num, by rw [HS.out]⟩
        case measure => simp [intOf]; omega
    · obtain rfl : k = 32 := by omega
      clear hk32 hk
      go_wp2_with (first
        | (refine load_new rfl 57 _ rfl (w2.heap.size + 1 + 1) (by simp) (fill (bitsOf (binF 6 A B)) 32) rfl 57 _ Try.underlying57 rfl (by rw [info57, fill_size]) ?_)
        | (go_at_call 61; refine (rword_ (binF 6 A B) _).mono ?_; rintro e w3 ⟨rfl, h3⟩))
      go_ret
      exact ⟨rfl, seq (seq h1 h2) ((((Below.refl _ _).alloc (Nat.le_refl _) _).alloc (by simp) _).alloc (by simp; omega) _ |>.trans (h3.mono (by simp; omega)))⟩
end Go.Proofs.Ytdlfgfghjdobjaa.Num
