import Derived.Test.YtdlfgfghjdobjaaRef
import Derived.OpenShut
import Derived.OwnWalk
import Derived.Laws.OwnMore
/- Slices of words: what a value reads as; an append onto a slice of the call's own; num.Fold of whatever slice. -/
namespace Go.Proofs.Ytdlfgfghjdobjaa.Num
open Go.ChangeShapes Go.WideShapes Go.ChangeAt Go.RowKit

/-- The words as cells. -/
def cellsOf (L : List (BitVec 32)) : List Value := L.map fun A => Value.int .i32 (sI A)
theorem cellsOf_length (L : List (BitVec 32)) : (cellsOf L).length = L.length := by unfold cellsOf; simp
theorem cellsOf_append (L M : List (BitVec 32)) : cellsOf L ++ cellsOf M = cellsOf (L ++ M) := by unfold cellsOf; simp
theorem cellsOf_get (L : List (BitVec 32)) (j : Nat) (h : j < L.length) : (cellsOf L)[j]? = some (.int .i32 (sI (L.getD j 0#32))) := by
  unfold cellsOf; simp [List.getD, h]
theorem cellsOf_one (L : List (BitVec 32)) : ∀ u ∈ cellsOf L, u.oneCell' = true := by
  intro u hu
  obtain ⟨_, _, rfl⟩ := List.mem_map.1 hu
  rfl

/-- The slice X reads as the words L. -/
def Rd (w : World) (X : Value) (L : List (BitVec 32)) : Prop :=
  (X = .slice none 0 0 ∧ L = []) ∨ ∃ x c, X = .slice (some x) L.length c ∧ ∀ j u, (cellsOf L)[j]? = some u → w.cell? (x.add j) = some u

theorem Rd.below {w w' : World} {X : Value} {L : List (BitVec 32)} (h : Rd w X L) (k : Below w.heap.size w w') : Rd w' X L := by
  rcases h with h | ⟨x, c, hX, hc⟩
  · exact .inl h
  · refine .inr ⟨x, c, hX, fun j u hu => ?_⟩
    have e := hc j u hu
    exact (k.cell (World.block_lt_of_cell? w _ e)).trans e

theorem Rd.own {w : World} {base n : Nat} {v : Value} {L : List (BitVec 32)} (h : w.ownsRow base 21 1 v n (cellsOf L)) : Rd w v L := by
  have hl : L.length = n := by have := h.1; rw [cellsOf_length] at this; omega
  rcases h.2 with ⟨hv, hn⟩ | ⟨g, cap, cur, hv, _, _⟩
  · exact .inl ⟨hv, List.eq_nil_of_length_eq_zero (hl.trans hn)⟩
  · refine .inr ⟨⟨g, 0, none⟩, cap, by rw [hv, hl], fun j u hu => h.cells (by rw [hv]; rfl) j u hu⟩

theorem info21 : (Try.prog.info? 21).map (fun i => (i.zero, i.size, i.bytes)) = some (some (.int .i32 0), 1, 4) := by kernel_rfl

/-- An append of whatever slice of words onto a slice of the call's own. -/
theorem wpList_append_rd {ops : Array Oper} {rest : List Oper} {o : Oper} {a : Act} {w : World} {Q : Exit → Act → World → Prop} (hgd : o.guard = none) (s x : Operand)
    (ho : o.op = .call { callee := .builtin .append, args := #[s, x], argTypes := #[30, 30] }) (base : Nat)
    (v : Value) (n : Nat) (L M : List (BitVec 32)) (hs : a.eval s = v) (hown : w.ownsRow base 21 1 v n (cellsOf L)) (X : Value) (hx : a.eval x = X) (hM : Rd w X M)
    (hroom : (n + M.length) * 4 ≤ 140737488355328) (hbase : base ≤ w.heap.size)
    (h : ∀ v' w', w'.ownsRow base 21 1 v' (n + M.length) (cellsOf (L ++ M)) → Below base w w' → wpList Try.prog ops Q rest (a.put o.dst v') w') : wpList Try.prog ops Q (o :: rest) a w := by
  obtain ⟨i, hi, hz, hs1, hb⟩ := info_parts info21
  rcases hM with ⟨hX, hM⟩ | ⟨ad, c, hX, hc⟩
  · subst hM
    have hr := run_append_owned_none (P := Try.prog) w base 30 o.type 21 i 1 Try.underlying30 hi v n (cellsOf L) hown
    refine wpList_plain hgd fun _ hK => ?_
    unfold Oper.wp execOp
    simp only [ho, resolve, invoke, builtin, Sem.run_bind, Sem.run_pure, Result.andThen_ok, List.map_toArray, List.map_cons, List.map_nil, hs, hx, hX, hr]
    exact hK _ _ (h v w (by simpa using hown) (Below.refl _ _))
  · refine wpList_append_own w hgd s x 30 ho base 21 i _ 1 4 Try.underlying30 hi hz hs1 hb rfl (by decide) v n (cellsOf L) hs hown ad M.length c (cellsOf M) (hx.trans hX) (by rw [cellsOf_length]; omega) hc (cellsOf_one M) (by unfold maxLen; omega) hroom hbase ?_
    intro v' w' h1 h2 _
    rw [cellsOf_append] at h1
    exact h v' w' h1 ((Below.refl base w).grown h2 hbase (fun k hk => (hown.lt k hk).1))

/-- num.Fold of whatever slice of words. -/
theorem fold_rd (i : Nat) (hi : i < 20) (hf : fol i = true) (o : Int) (ho : o = (i : Int)) (X : Value) (L : List (BitVec 32)) (w : World) (hm : L.length ≤ maxLen) (h : Rd w X L) :
    Calls Try.prog 25 #[.int .i64 o, X] w fun e w' => e = .returned (.tuple #[.int .i32 (sI (foldB i L)), .bool true]) ∧ Below w.heap.size w w' := by
  subst ho
  obtain ⟨hS, h0⟩ := fold_any i hi hf
  rcases h with ⟨hX, hL⟩ | ⟨x, c, hX, hc⟩
  · subst hX; subst hL; exact h0 none 0 w
  · subst hX
    cases L with
    | nil => exact h0 (some x) c w
    | cons A r =>
      have h1 := hc 0 _ (cellsOf_get (A :: r) 0 (by simp))
      obtain ⟨b, off, sp⟩ := x
      have hsp : sp = none := by simpa [Addr.add] using World.cell?_spot h1
      subst hsp
      have hb : b < w.heap.size := World.block_lt_of_cell? w ⟨b, off, none⟩ (by simpa [Addr.add] using h1)
      refine hS b off c (A :: r) w hm hb fun j hj => ?_
      have e := hc j _ (cellsOf_get (A :: r) j hj)
      rw [Addr.add_mid] at e
      exact e

/-! The reference's Neutral and Folds -/
def neuV (i : Nat) : Int := if fol i then neu i else 0
def RNeu (i : Nat) (o : Int) : Prop := ∀ w : World, Calls Try.prog 24 #[.int .i64 o] w fun e w' => e = .returned (.tuple #[.int .i32 (neuV i), .bool (fol i)]) ∧ w = w'
theorem rneu_out (o : Int) (h : o < 0 ∨ 20 ≤ o) (w : World) : Calls Try.prog 24 #[.int .i64 o] w fun e w' => e = .returned (.tuple #[.int .i32 0, .bool false]) ∧ w = w' := by
  have h0 : (o == 0) = false := by rw [beq_eq_false_iff_ne]; omega
  have h5 : (o == 5) = false := by rw [beq_eq_false_iff_ne]; omega
  have h6 : (o == 6) = false := by rw [beq_eq_false_iff_ne]; omega
  have h7 : (o == 7) = false := by rw [beq_eq_false_iff_ne]; omega
  have h18 : (o == 18) = false := by rw [beq_eq_false_iff_ne]; omega
  have h19 : (o == 19) = false := by rw [beq_eq_false_iff_ne]; omega
  clear h
  go_enter Try.func24, Try.ntmps24
  go_wp2
  go_ret2
  exact ⟨rfl, rfl⟩
theorem rneu0 : RNeu 0 0 := by
  intro w
  go_enter Try.func24, Try.ntmps24
  go_wp2
  go_ret2
  exact ⟨rfl, rfl⟩
theorem rneu1 : RNeu 1 1 := by
  intro w
  go_enter Try.func24, Try.ntmps24
  go_wp2
  go_ret2
  exact ⟨rfl, rfl⟩
theorem rneu2 : RNeu 2 2 := by
  intro w
  go_enter Try.func24, Try.ntmps24
  go_wp2
  go_ret2
  exact ⟨rfl, rfl⟩
theorem rneu3 : RNeu 3 3 := by
  intro w
  go_enter Try.func24, Try.ntmps24
  go_wp2
  go_ret2
  exact ⟨rfl, rfl⟩
theorem rneu4 : RNeu 4 4 := by
  intro w
  go_enter Try.func24, Try.ntmps24
  go_wp2
  go_ret2
  exact ⟨rfl, rfl⟩
theorem rneu5 : RNeu 5 5 := by
  intro w
  go_enter Try.func24, Try.ntmps24
  go_wp2
  go_ret2
  exact ⟨rfl, rfl⟩
theorem rneu6 : RNeu 6 6 := by
  intro w
  go_enter Try.func24, Try.ntmps24
  go_wp2
  go_ret2
  exact ⟨rfl, rfl⟩
theorem rneu7 : RNeu 7 7 := by
  intro w
  go_enter Try.func24, Try.ntmps24
  go_wp2
  go_ret2
  exact ⟨rfl, rfl⟩
theorem rneu8 : RNeu 8 8 := by
  intro w
  go_enter Try.func24, Try.ntmps24
  go_wp2
  go_ret2
  exact ⟨rfl, rfl⟩
theorem rneu9 : RNeu 9 9 := by
  intro w
  go_enter Try.func24, Try.ntmps24
  go_wp2
  go_ret2
  exact ⟨rfl, rfl⟩
theorem rneu10 : RNeu 10 10 := by
  intro w
  go_enter Try.func24, Try.ntmps24
  go_wp2
  go_ret2
  exact ⟨rfl, rfl⟩
theorem rneu11 : RNeu 11 11 := by
  intro w
  go_enter Try.func24, Try.ntmps24
  go_wp2
  go_ret2
  exact ⟨rfl, rfl⟩
theorem rneu12 : RNeu 12 12 := by
  intro w
  go_enter Try.func24, Try.ntmps24
  go_wp2
  go_ret2
  exact ⟨rfl, rfl⟩
theorem rneu13 : RNeu 13 13 := by
  intro w
  go_enter Try.func24, Try.ntmps24
  go_wp2
  go_ret2
  exact ⟨rfl, rfl⟩
theorem rneu14 : RNeu 14 14 := by
  intro w
  go_enter Try.func24, Try.ntmps24
  go_wp2
  go_ret2
  exact ⟨rfl, rfl⟩
theorem rneu15 : RNeu 15 15 := by
  intro w
  go_enter Try.func24, Try.ntmps24
  go_wp2
  go_ret2
  exact ⟨rfl, rfl⟩
theorem rneu16 : RNeu 16 16 := by
  intro w
  go_enter Try.func24, Try.ntmps24
  go_wp2
  go_ret2
  exact ⟨rfl, rfl⟩
theorem rneu17 : RNeu 17 17 := by
  intro w
  go_enter Try.func24, Try.ntmps24
  go_wp2
  go_ret2
  exact ⟨rfl, rfl⟩
theorem rneu18 : RNeu 18 18 := by
  intro w
  go_enter Try.func24, Try.ntmps24
  go_wp2
  go_ret2
  exact ⟨rfl, rfl⟩
theorem rneu19 : RNeu 19 19 := by
  intro w
  go_enter Try.func24, Try.ntmps24
  go_wp2
  go_ret2
  exact ⟨rfl, rfl⟩
theorem rneu_in : ∀ i, i < 20 → RNeu i (i : Int) := (below_succ (below_succ (below_succ (below_succ (below_succ (below_succ (below_succ (below_succ (below_succ (below_succ (below_succ (below_succ (below_succ (below_succ (below_succ (below_succ (below_succ (below_succ (below_succ (below_succ below_zero rneu0) rneu1) rneu2) rneu3) rneu4) rneu5) rneu6) rneu7) rneu8) rneu9) rneu10) rneu11) rneu12) rneu13) rneu14) rneu15) rneu16) rneu17) rneu18) rneu19)
theorem rfolds_in (i : Nat) (hi : i < 20) (o : Int) (ho : o = (i : Int)) (w : World) : Calls Try.prog 28 #[.int .i64 o] w fun e w' => e = .returned (.bool (fol i)) ∧ w = w' := by
  subst ho
  go_enter Try.func28, Try.ntmps28
  go_wp2_with (go_at_call 24; refine (rneu_in i hi _).mono ?_; rintro e w' ⟨rfl, rfl⟩)
  go_ret
  exact ⟨rfl, rfl⟩
theorem rfolds_out (o : Int) (h : o < 0 ∨ 20 ≤ o) (w : World) : Calls Try.prog 28 #[.int .i64 o] w fun e w' => e = .returned (.bool false) ∧ w = w' := by
  go_enter Try.func28, Try.ntmps28
  go_wp2_with (go_at_call 24; refine (rneu_out o h _).mono ?_; rintro e w' ⟨rfl, rfl⟩)
  go_ret
  exact ⟨rfl, rfl⟩
end Go.Proofs.Ytdlfgfghjdobjaa.Num
