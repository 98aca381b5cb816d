import Derived.Test.YtdlfgfghjdobjaaRd
/- The reference's bits: an array of 32 bools, filled in a loop. -/
namespace Go.Proofs.Ytdlfgfghjdobjaa.Num
open Go.ChangeShapes Go.WideShapes Go.ChangeAt Go.RowKit

/-- An array of 32 bools whose first k places are filled. -/
def fill (f : Nat → Bool) (k : Nat) : Array Value := ((List.range 32).map fun i => Value.bool (if i < k then f i else false)).toArray
theorem fill_size (f : Nat → Bool) (k : Nat) : (fill f k).size = 32 := by unfold fill; simp
theorem fill_get (f : Nat → Bool) (k i : Nat) (h : i < 32) : (fill f k)[i]? = some (.bool (if i < k then f i else false)) := by
  unfold fill; simp [h]
theorem fill_old (f : Nat → Bool) (k i : Nat) (h : i < k) (hk : k ≤ 32) : (fill f k)[i]? = some (.bool (f i)) := by
  rw [fill_get f k i (by omega), if_pos h]
theorem fill_new (f : Nat → Bool) (k : Nat) (hk : k < 32) : (fill f k)[k]? = some (.bool false) := by
  rw [fill_get f k k hk, if_neg (by omega)]
theorem fill_set (f : Nat → Bool) (k : Nat) (b : Bool) (hb : b = f k) : (fill f k).setIfInBounds k (.bool b) = fill f (k + 1) := by
  subst hb
  apply Array.ext_getElem?
  intro i
  rw [Array.getElem?_setIfInBounds, fill_size]
  by_cases hi : i < 32
  · rw [fill_get _ _ i hi, fill_get _ _ i hi]
    by_cases e : k = i
    · subst e; simp [hi]
    · by_cases h1 : i < k
      · rw [if_neg e, if_pos h1, if_pos (by omega)]
      · rw [if_neg e, if_neg h1, if_neg (by omega)]
  · have h1 : (fill f k)[i]? = none := by rw [Array.getElem?_eq_none]; rw [fill_size]; omega
    have h2 : (fill f (k + 1))[i]? = none := by rw [Array.getElem?_eq_none]; rw [fill_size]; omega
    rw [h1, h2]
    by_cases e : k = i
    · subst e; simp [hi]
    · rw [if_neg e]
theorem fill_skip (f : Nat → Bool) (k : Nat) (h : f k = false) : fill f (k + 1) = fill f k := by
  unfold fill
  congr 1
  apply List.map_congr_left
  intro i _
  by_cases e : i = k
  · subst e; simp [h]
  · by_cases h1 : i < k
    · rw [if_pos h1, if_pos (by omega)]
    · rw [if_neg h1, if_neg (by omega)]
theorem fill_one (f : Nat → Bool) (k : Nat) : (fill f k).all (·.oneCell') = true := by
  unfold fill; simp [Value.oneCell']

theorem info57 : (Try.prog.info? 57).map (·.size) = some 32 := by kernel_rfl

theorem setRow_under (w : World) (c c' : Array Value) (t : TypeId) (Y : Obj) : ((w.alloc (.cells c t)).alloc Y).setRow w.heap.size c' = (w.alloc (.cells c' t)).alloc Y := by
  simp only [World.setRow, World.alloc]
  congr 1
  apply Array.ext_getElem?
  intro i
  rw [Array.getElem?_modify]
  by_cases h : w.heap.size = i
  · subst h
    simp [Array.getElem?_push]
  · have h' : ¬ i = w.heap.size := fun e => h e.symm
    simp [h, h', Array.getElem?_push]
/-- A whole array into the block before the last. -/
theorem store_under {P : Program} {ops : Array Oper} {rest : List Oper} {o : Oper} {a : Act} {w : World} {Q : Exit → Act → World → Prop} (hgd : o.guard = none) (ty : TypeId) (x y : Operand) (ho : o.op = .store ty x y)
    (hd : o.dst = none) (g : Nat) (hgw : g = w.heap.size) (cells : Array Value) (hx : a.eval x = .pointer (some ⟨g, 0, none⟩)) (hy : a.eval y = .agg cells)
    (t : TypeId) (old : Array Value) {Y : Obj} (hi : (P.info? ty).map (·.size) = some cells.size)
    (hold : old.size = cells.size) (h1 : cells.all (·.oneCell') = true)
    (h : wpList P ops Q rest a ((w.alloc (.cells cells t)).alloc Y)) : wpList P ops Q (o :: rest) a ((w.alloc (.cells old t)).alloc Y) := by
  subst hgw
  refine wpList_store_rowTo hgd ty x y ho hd w.heap.size cells hx hy t old (heap_alloc2_old w _ _) hi hold h1 ?_
  rw [setRow_under]
  exact h

/-- The array of the bits of a word. -/
def bitsOf (A : BitVec 32) : Nat → Bool := fun i => A.getLsbD i

theorem bit_at (A : BitVec 32) (k M : Nat) (hM : M = A.toNat / 2 ^ k) : ((M : Int) % 2 == 1) = bitsOf A k := by
  subst hM
  show _ = A.toNat.testBit k
  rw [Nat.testBit_eq_decide_div_mod_eq, Bool.eq_iff_iff, beq_iff_eq, decide_eq_true_iff]
  omega
theorem div_next (A : BitVec 32) (k M : Nat) (hM : M = A.toNat / 2 ^ k) : M / 2 = A.toNat / 2 ^ (k + 1) := by
  subst hM; rw [Nat.div_div_eq_div_mul, Nat.pow_succ]

set_option maxRecDepth 100000 in
theorem rbits_ (A : BitVec 32) (w : World) : Calls Try.prog 60 #[.int .i32 (sI A)] w fun e w' => e = .returned (.agg (fill (bitsOf A) 32)) ∧ Below w.heap.size w w' := by
  have hm := mod_sI A
  have hlt := A.isLt
  go_enter Try.func60, Try.ntmps60
  go_wp2
  go_loopw [4, 5] (fun n t wr => ∃ k M : Nat, k ≤ 32 ∧ M ≤ 4294967295 ∧ M = A.toNat / 2 ^ k ∧ t = .int .i64 k ∧ n = .int .u32 M ∧ wr = (w.alloc (.cells (fill (bitsOf A) 0) 57)).alloc (.cells (fill (bitsOf A) k) 57)) (fun _ t _ => 32 - (intOf t).toNat)
  case atStart => exact ⟨0, A.toNat, by omega, by omega, by simp, rfl, by rw [hm], by kernel_rfl⟩
  case round =>
    obtain ⟨k, M, hk, hM, hMk, rfl, rfl, rfl⟩ := hrel
    clear hm hlt
    by_cases hk32 : k < 32
    · have hs := fill_set (bitsOf A) k _ (bit_at A k M hMk)
      have HN := Lib.hid (div_next A k M hMk)
      have hn := fill_new (bitsOf A) k hk32
      have hz := fill_size (bitsOf A) k
      have HS := Lib.hid hs
      clear hs hMk
      go_wp2
      go_roundw
      case rel => exact ⟨k + 1, M / 2, by omega, by omega, HN.out, by go_num, by go_num, by rw [HS.out]⟩
      case measure => simp [intOf]; omega
    · obtain rfl : k = 32 := by omega
      clear hMk hM hk hk32
      go_wp2_with (first
        | (refine wpList_load_row rfl 57 _ rfl (w.heap.size + 1) rfl 57 (fill (bitsOf A) 32) (0, 0) _ (heap_alloc2_new _ _ _) Try.underlying57 rfl (by rw [info57, fill_size]) ?_)
        | (refine store_under rfl 57 _ _ rfl rfl w.heap.size rfl (fill (bitsOf A) 32) rfl rfl 57 _ (by rw [info57, fill_size]) (by rw [fill_size, fill_size]) (fill_one _ _) ?_))
      exact bodyPost_ret (results_cell_row Try.results60 _ _ w.heap.size 57 (fill (bitsOf A) 32) (0, 0) _ rfl (heap_alloc2_old _ _ _) Try.underlying57 rfl (by rw [info57, fill_size])) rfl ⟨rfl, ((Below.refl _ _).alloc (Nat.le_refl _) _).alloc (by simp) _⟩

/-! The word of 32 bits -/
theorem word_step (A : BitVec 32) (k : Nat) : A.toNat % 2 ^ (k + 1) = A.toNat % 2 ^ k + (if bitsOf A k then 2 ^ k else 0) := by
  have e : bitsOf A k = decide (A.toNat / 2 ^ k % 2 = 1) := by
    show A.toNat.testBit k = _
    rw [Nat.testBit_eq_decide_div_mod_eq]
  rw [e, Nat.mod_pow_succ]
  by_cases h : A.toNat / 2 ^ k % 2 = 1
  · simp [h]
  · have h0 : A.toNat / 2 ^ k % 2 = 0 := by omega
    simp [h0]

set_option maxRecDepth 100000 in
theorem rword_ (A : BitVec 32) (w : World) : Calls Try.prog 61 #[.agg (fill (bitsOf A) 32)] w fun e w' => e = .returned (.int .i32 (sI A)) ∧ Below w.heap.size w w' := by
  have hz := fill_size (bitsOf A) 32
  go_enter Try.func61, Try.ntmps61
  go_wp2
  clear hz
  go_loop [3, 4, 5] (fun n u t => ∃ k M U : Nat, k ≤ 32 ∧ M = A.toNat % 2 ^ k ∧ U = 2 ^ k % 4294967296 ∧ t = .int .i64 k ∧ n = .int .u32 M ∧ u = .int .u32 U) (fun _ _ t => 32 - (intOf t).toNat)
  case atStart => exact ⟨0, 0, 1, by omega, by omega, by omega, rfl, rfl, rfl⟩
  case round =>
    obtain ⟨k, M, U, hk, hM, hU, rfl, rfl, rfl⟩ := hrel
    by_cases hk32 : k < 32
    · have hp : (2 : Nat) ^ k ≤ 2147483648 := (Nat.pow_le_pow_right (by decide) (by omega) : 2 ^ k ≤ 2 ^ 31)
      have hp0 : 0 < (2 : Nat) ^ k := Nat.pow_pos (by decide)
      have hUe : U = 2 ^ k := by omega
      have hMb : M < 2 ^ k := by rw [hM]; exact Nat.mod_lt _ hp0
      have HU := Lib.hid (show U * 2 % 4294967296 = 2 ^ (k + 1) % 4294967296 by rw [hUe, Nat.pow_succ])
      have hs : M + U ≤ 4294967295 := by omega
      have hub : U ≤ 2147483648 := by omega
      have hw := word_step A k
      rw [← hM] at hw
      by_cases hb : bitsOf A k = true
      · have hx : (fill (bitsOf A) 32)[k]? = some (.bool true) := by rw [fill_old _ 32 k hk32 (by omega), hb]
        rw [if_pos hb, ← hUe] at hw
        have HW := Lib.hid hw
        clear hp hp0 hUe hMb hU hM hb hw
        go_wp2
        go_round
        case rel => exact ⟨k + 1, _, _, by omega, rfl, rfl, by go_num, by rw [HW.out]; go_num, by rw [← HU.out]; go_num⟩
        case measure => simp [intOf]; omega
      · have hx : (fill (bitsOf A) 32)[k]? = some (.bool false) := by rw [fill_old _ 32 k hk32 (by omega)]; simp [hb]
        rw [if_neg hb] at hw
        have HW := Lib.hid hw
        clear hp hp0 hUe hMb hU hM hb hw
        go_wp2
        go_round
        case rel => exact ⟨k + 1, _, _, by omega, rfl, rfl, by go_num, by rw [HW.out]; go_num, by rw [← HU.out]; go_num⟩
        case measure => simp [intOf]; omega
    · obtain rfl : k = 32 := by omega
      have hw : M = A.toNat := by rw [hM]; exact Nat.mod_eq_of_lt A.isLt
      have hc : wrap32 (M : Int) = sI A := by rw [hw, ← sI_oI]; unfold oI; rw [BitVec.ofInt_natCast, BitVec.ofNat_toNat, BitVec.setWidth_eq]
      have HC := Lib.hid hc
      clear hw hc hM hU hk32 hk
      go_wp2
      go_ret
      exact ⟨ret_i HC.out, (Below.refl _ _).alloc (Nat.le_refl _) _⟩
end Go.Proofs.Ytdlfgfghjdobjaa.Num
