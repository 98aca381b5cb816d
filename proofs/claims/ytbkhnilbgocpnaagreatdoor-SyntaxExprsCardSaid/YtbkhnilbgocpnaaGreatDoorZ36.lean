import Derived.Test.YtbkhnilbgocpnaaGreatDoorZ0
import Derived.Test.YtbkhnilbgocpnaaGreatDoorZ35
set_option linter.unusedVariables false
set_option linter.unusedSimpArgs false
set_option linter.unusedVariables false
set_option linter.unusedSimpArgs false
namespace Go.Proofs.YtbkhnilbgocpnaaGreatDoor.SynC
open Go.Proofs.YtbkhnilbgocpnaaGreatDoor.LexC
open Go Go.ChangeShapes Go.WideShapes Go.ChangeAt Go.RowKit Go.Deep
def LvP (n : Nat) (w : World) (e : Ending) (w' : World) : Prop := ∃ g1 g2, e = .returned (.tuple #[.slice (some ⟨g1, 0, none⟩) (lev n).length (lev n).length, .slice (some ⟨g2, 0, none⟩) (lev n).length (lev n).length]) ∧
  Below w.heap.size w w' ∧ w.heap.size ≤ g1 ∧ g1 < w'.heap.size ∧ w.heap.size ≤ g2 ∧ g2 < w'.heap.size ∧
  ∀ j x, (lev n)[j]? = some x → w'.cell? ⟨g1, j, none⟩ = some (.string (bs x.1)) ∧ w'.cell? ⟨g2, j, none⟩ = some (.int .i64 x.2)
theorem lv_mem {n : Nat} (w : World) : ∀ j x, (lev n)[j]? = some x → ((w.alloc (.cells (((lev n).map fun x => Value.string (bs x.1)).toArray) 9)).alloc (.cells (((lev n).map fun x => Value.int .i64 x.2).toArray) 3)).cell? ⟨w.heap.size, j, none⟩ = some (.string (bs x.1)) ∧
    ((w.alloc (.cells (((lev n).map fun x => Value.string (bs x.1)).toArray) 9)).alloc (.cells (((lev n).map fun x => Value.int .i64 x.2).toArray) 3)).cell? ⟨w.heap.size + 1, j, none⟩ = some (.int .i64 x.2) := by
  intro j x h
  constructor
  · rw [cell_of_row _ _ j _ _ _ (heap_old (by simp) (heap_alloc_new _ _))]
    simp [h]
  · rw [cell_of_row _ _ j _ _ _ (heap_at (by simp))]
    simp [h]
set_option maxRecDepth 100000 in
set_option maxHeartbeats 2000000 in
theorem rlevel (n : Nat) (h1 : 1 ≤ n) (h2 : n ≤ 10) (w : World) : Calls Tryz.prog 94 #[.int .i64 n] w (LvP n w) := by
  have h : n = 1 ∨ n = 2 ∨ n = 3 ∨ n = 4 ∨ n = 5 ∨ n = 6 ∨ n = 7 ∨ n = 8 ∨ n = 9 ∨ n = 10 := by omega
  rcases h with rfl | rfl | rfl | rfl | rfl | rfl | rfl | rfl | rfl | rfl
  all_goals
    go_enter Tryz.func94, Tryz.ntmps94
    go_wp2
    go_ret2
    exact ⟨w.heap.size, w.heap.size + 1, rfl, (bel_al _ _).trans tBEL, Nat.le_refl _, tSZ, by omega, tSZ, lv_mem w⟩
end Go.Proofs.YtbkhnilbgocpnaaGreatDoor.SynC
set_option linter.unusedVariables false
set_option linter.unusedSimpArgs false
namespace Go.Proofs.YtbkhnilbgocpnaaGreatDoor.SynC
open Go.Proofs.YtbkhnilbgocpnaaGreatDoor.LexC
open Go Go.ChangeShapes Go.WideShapes Go.ChangeAt Go.RowKit Go.Deep
def BinP (op : Int) (tu : Bool) (A B : Array Value) (w : World) (e : Ending) (w' : World) : Prop := ∃ nb, Below w.heap.size w w' ∧ w.heap.size ≤ nb ∧
  e = .returned (.tuple #[.agg #[.int .i64 4, .int .i64 op, .int .i32 0, .string (bs []), .slice (some ⟨nb, 0, none⟩) 2 2], .bool true]) ∧
  w'.heap[nb]? = some (.cells (if tu then B ++ A else A ++ B) 34 (0, 0))
theorem lookup_at {L : List (List UInt8 × Int)} {s : List UInt8} {op : Int} {k : Nat} (h : L.lookup s = (L.drop k).lookup s) (hl : L.lookup s = some op) : ∃ x, L[k]? = some x ∧ (x.1 = s → x.2 = op) ∧ (x.1 ≠ s → L.lookup s = (L.drop (k + 1)).lookup s) := by
  cases hk : L[k]? with
  | none =>
    rw [List.drop_eq_nil_of_le (by simpa using hk)] at h
    rw [hl] at h; cases h
  | some x =>
    have hlt := (List.getElem?_eq_some_iff.1 hk)
    have hd : L.drop k = x :: L.drop (k + 1) := by rw [List.drop_eq_getElem_cons hlt.1, hlt.2]
    refine ⟨x, rfl, fun e => ?_, fun e => ?_⟩
    · rw [hl, hd, List.lookup_cons] at h
      subst e; simp at h; exact h.symm
    · rw [h, hd, List.lookup_cons, beq_false_of_ne (fun e' => e e'.symm)]
theorem ret_xb {fn : Func} {R : Ending → World → Prop} {a : Act} {W : World} {q s s' : Nat} {v0 v1 v2 v3 v4 x : Value} {fr : Nat × Nat} (hr : fn.results = #[ResultVar.cell s 34, .tmp s']) (hd : a.defers = [])
    (hs : a.tmps.getD s undef = .pointer (some ⟨q, 0, none⟩)) (hs' : a.tmps.getD s' undef = x) (hq : W.heap[q]? = some (Obj.cells #[v0, v1, v2, v3, v4] 34 fr)) (h : R (.returned (.tuple #[.agg #[v0, v1, v2, v3, v4], x])) W) : bodyPost Tryz.prog fn R Exit.ret a W := by
  have c : ∀ j, W.cell? ⟨q, j, none⟩ = #[v0, v1, v2, v3, v4][j]? := fun j => cell_of_row _ _ j _ _ _ hq
  refine bodyPost_ret (v := .tuple #[.agg #[v0, v1, v2, v3, v4], x]) ?_ hd h
  rw [Array.getD_eq_getD_getElem?] at hs hs'
  simp [results, hr, go_sem, hs, hs', c]
set_option maxRecDepth 100000 in
set_option maxHeartbeats 2000000 in
theorem rbinary (n : Nat) (h1 : 1 ≤ n) (h2 : n ≤ 10) (s : List UInt8) (op : Int) (hl : (lev n).lookup s = some op) (w : World) (ak ao an : Int) (ax : List UInt8) (aA : Option Addr) (am ac : Nat) (bk bo bn : Int) (bx : List UInt8) (bA : Option Addr) (bm bc : Nat) :
    Calls Tryz.prog 60 #[.int .i64 n, .string (bs s), .agg #[.int .i64 ak, .int .i64 ao, .int .i32 an, .string (bs ax), .slice aA am ac], .agg #[.int .i64 bk, .int .i64 bo, .int .i32 bn, .string (bs bx), .slice bA bm bc]] w (BinP op (s == [62] || s == [62, 61]) #[.int .i64 ak, .int .i64 ao, .int .i32 an, .string (bs ax), .slice aA am ac] #[.int .i64 bk, .int .i64 bo, .int .i32 bn, .string (bs bx), .slice bA bm bc] w) := by
  have HLV := Lib.hid (rlevel n h1 h2)
  obtain ⟨L, hL⟩ : ∃ L, lev n = L := ⟨_, rfl⟩
  have hL5 : L.length ≤ 5 := by
    have h : n = 1 ∨ n = 2 ∨ n = 3 ∨ n = 4 ∨ n = 5 ∨ n = 6 ∨ n = 7 ∨ n = 8 ∨ n = 9 ∨ n = 10 := by omega
    rw [← hL]
    rcases h with rfl | rfl | rfl | rfl | rfl | rfl | rfl | rfl | rfl | rfl <;> decide
  unfold LvP at HLV
  rw [hL] at HLV hl
  have HLK := Lib.hid hl
  obtain ⟨p1, hp1⟩ : ∃ p, decide (s = [62]) = p := ⟨_, rfl⟩
  obtain ⟨p2, hp2⟩ : ∃ p, decide (s = [62, 61]) = p := ⟨_, rfl⟩
  have q1 : ((bs s).toList == ([62] : List UInt8)) = p1 := by rw [ByteArray.toList_eq, bs_toList, ← hp1]; rw [Bool.eq_iff_iff]; simp
  have q2 : ((bs s).toList == ([62, 61] : List UInt8)) = p2 := by rw [ByteArray.toList_eq, bs_toList, ← hp2]; rw [Bool.eq_iff_iff]; simp
  have hturn : (s == [62] || s == [62, 61]) = (p1 || p2) := by rw [← hp1, ← hp2]; congr 1 <;> (rw [Bool.eq_iff_iff]; simp)
  rw [hturn]
  clear hl hL hp1 hp2 hturn
  go_enter Tryz.func60, Tryz.ntmps60
  go_wp2_with fail
  refine (HLV.out _).mono ?_
  rintro e w1 ⟨g1, g2, rfl, hb1, hg1, hg1', hg2, hg2', hc⟩
  obtain ⟨_, _, _, la⟩ := loc_keep (q := w.heap.size) (gb_below hb1 (some (w.heap.size + 10))) tLOC (by omega)
  obtain ⟨_, _, _, lb⟩ := loc_keep (q := w.heap.size + 1) (gb_below hb1 (some (w.heap.size + 10))) tLOC (by omega)
  obtain ⟨_, _, _, lr⟩ := loc_keep (q := w.heap.size + 1 + 1) (gb_below hb1 (some (w.heap.size + 10))) tLOC (by omega)
  have HB1 := Lib.hid (show Below w.heap.size w w1 from (show Below w.heap.size w _ from tBEL).trans (hb1.mono tSZ))
  have hz1 := hb1.size
  simp only [sz_al] at hz1 hg1 hg2
  have HC := Lib.hid hc
  clear hb1 hc
  go_wp2_with fail
  go_loop [12] (fun i => ∃ k : Nat, k ≤ L.length ∧ i = .int .i64 k ∧ L.lookup s = (L.drop k).lookup s) (fun i => L.length - (intOf i).toNat)
  case atStart => exact ⟨0, Nat.zero_le _, rfl, by simp⟩
  case round =>
    obtain ⟨k, hk, rfl, hn⟩ := hrel
    obtain ⟨x, hx, he, hne⟩ := lookup_at hn HLK.out
    obtain ⟨d1, d2⟩ := HC.out k x hx
    have hlt := (List.getElem?_eq_some_iff.1 hx).1
    have hin : (0 : Int) ≤ k ∧ (k : Int) < L.length := ⟨by omega, by omega⟩
    obtain ⟨y, hy⟩ : ∃ y, x.1 = y := ⟨_, rfl⟩
    obtain ⟨z, hz⟩ : ∃ z, x.2 = z := ⟨_, rfl⟩
    rw [hy] at d1 he hne
    rw [hz] at d2 he
    have HNE := Lib.hid hne
    clear hn hne hy hz hx
    by_cases hs : y = s
    · have hz := he hs
      have hq : ((bs y).toList == (bs s).toList) = true := by rw [beq_bs]; simp [hs]
      clear he
      subst hs
      subst hz
      cases p1
      · cases p2
        · go_wp2_with fail
          go_region
          generalize hW : World.drew _ = W
          have F1 : W.heap[w.heap.size + 1 + 1]? = some (Obj.cells #[.int .i64 4, .int .i64 z, .int .i32 0, .string ⟨#[]⟩, .slice (some ⟨w1.heap.size, 0, none⟩) 2 2] 34 (0, 0)) := by rw [← hW]; exact tRESD
          have F2 : W.heap[w1.heap.size]? = some (Obj.cells #[.int .i64 ak, .int .i64 ao, .int .i32 an, .string (bs ax), .slice aA am ac, .int .i64 bk, .int .i64 bo, .int .i32 bn, .string (bs bx), .slice bA bm bc] 34 (0, 0)) := by rw [← hW]; exact tRESD
          have F3 : Below w.heap.size w W := by rw [← hW]; exact HB1.out.trans tBELD
          clear hW
          go_wp2
          refine ret_xb rfl rfl rfl rfl F1 ?_
          exact ⟨w1.heap.size, F3, by omega, rfl, F2⟩
        · go_wp2_with fail
          go_region
          generalize hW : World.drew _ = W
          have F1 : W.heap[w.heap.size + 1 + 1]? = some (Obj.cells #[.int .i64 4, .int .i64 z, .int .i32 0, .string ⟨#[]⟩, .slice (some ⟨w1.heap.size, 0, none⟩) 2 2] 34 (0, 0)) := by rw [← hW]; exact tRESD
          have F2 : W.heap[w1.heap.size]? = some (Obj.cells #[.int .i64 bk, .int .i64 bo, .int .i32 bn, .string (bs bx), .slice bA bm bc, .int .i64 ak, .int .i64 ao, .int .i32 an, .string (bs ax), .slice aA am ac] 34 (0, 0)) := by rw [← hW]; exact tRESD
          have F3 : Below w.heap.size w W := by rw [← hW]; exact HB1.out.trans tBELD
          clear hW
          go_wp2
          refine ret_xb rfl rfl rfl rfl F1 ?_
          exact ⟨w1.heap.size, F3, by omega, rfl, F2⟩
      · go_wp2_with fail
        go_region
        generalize hW : World.drew _ = W
        have F1 : W.heap[w.heap.size + 1 + 1]? = some (Obj.cells #[.int .i64 4, .int .i64 z, .int .i32 0, .string ⟨#[]⟩, .slice (some ⟨w1.heap.size, 0, none⟩) 2 2] 34 (0, 0)) := by rw [← hW]; exact tRESD
        have F2 : W.heap[w1.heap.size]? = some (Obj.cells #[.int .i64 bk, .int .i64 bo, .int .i32 bn, .string (bs bx), .slice bA bm bc, .int .i64 ak, .int .i64 ao, .int .i32 an, .string (bs ax), .slice aA am ac] 34 (0, 0)) := by rw [← hW]; exact tRESD
        have F3 : Below w.heap.size w W := by rw [← hW]; exact HB1.out.trans tBELD
        clear hW
        go_wp2
        refine ret_xb rfl rfl rfl rfl F1 ?_
        exact ⟨w1.heap.size, F3, by omega, rfl, F2⟩
    · have hq : ((bs y).toList == (bs s).toList) = false := by rw [beq_bs]; simp [hs]
      go_wp2_with fail
      go_round
      case rel => exact ⟨k + 1, by omega, by go_num, HNE.out hs⟩
      case measure => simp [intOf]; omega
end Go.Proofs.YtbkhnilbgocpnaaGreatDoor.SynC
