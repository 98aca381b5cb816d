import Derived.Test.YtlpmeodphjpmeaaDoorToks
import Derived.Deep.QuietTactic
import Derived.BigQuiet
import Derived.LoopTactic
/- The reference's Same at lists of tokens that are the same. -/
namespace Go.Proofs.YtlpmeodphjpmeaaDoor.Lex
open Go.ChangeShapes Go.WideShapes Go.ChangeAt Go.RowKit

/-- Token i of the slice at A lies in four cells. -/
def TokAt (w : World) (A : Option Addr) (i : Nat) (t : Tok) : Prop :=
  ∃ b off, A = some ⟨b, off, none⟩ ∧ w.cell? ⟨b, off + i * 4, none⟩ = some (.int .i64 t.kind) ∧ w.cell? ⟨b, off + i * 4 + 1, none⟩ = some (.int .i64 t.pos) ∧
    w.cell? ⟨b, off + i * 4 + 2, none⟩ = some (.string (bs t.text)) ∧ w.cell? ⟨b, off + i * 4 + 3, none⟩ = some (.int .i32 t.num)
theorem Rt.open_ {w : World} {X : Value} {L : List Tok} (h : Rt w X L) : ∃ A c, X = .slice A L.length c ∧ ∀ i t, L[i]? = some t → TokAt w A i t := by
  rcases h with ⟨hX, hL⟩ | ⟨x, c, hX, hc⟩
  · subst hL
    exact ⟨none, 0, hX, fun i t h => by simp at h⟩
  · refine ⟨some x, c, hX, fun i t ht => ?_⟩
    have h0 := hc (i * 4 + 0) _ ((cellsT_at ht 0 (by omega)).trans rfl)
    have h1 := hc (i * 4 + 1) _ ((cellsT_at ht 1 (by omega)).trans rfl)
    have h2 := hc (i * 4 + 2) _ ((cellsT_at ht 2 (by omega)).trans rfl)
    have h3 := hc (i * 4 + 3) _ ((cellsT_at ht 3 (by omega)).trans rfl)
    obtain ⟨b, off, sp⟩ := x
    have hsp : sp = none := by
      have hl : 0 < L.length := by have := (List.getElem?_eq_some_iff.1 ht).1; omega
      have h := hc (0 * 4 + 0) _ ((cellsT_at (List.getElem?_eq_getElem hl) 0 (by omega)).trans rfl)
      simpa [Addr.add] using World.cell?_spot h
    subst hsp
    have hadd : ∀ j, (⟨b, off, none⟩ : Addr).add j = ⟨b, off + j, none⟩ := fun j => by unfold Addr.add; split <;> simp_all
    rw [hadd] at h0 h1 h2 h3
    exact ⟨b, off, rfl, h0, h1, h2, h3⟩

/-- The same tokens, with or without their places. -/
def SameL (at_ : Bool) (L M : List Tok) : Prop := L.length = M.length ∧ ∀ (i : Nat) (t u : Tok), L[i]? = some t → M[i]? = some u → t.kind = u.kind ∧ t.text = u.text ∧ t.num = u.num ∧ (at_ = true → t.pos = u.pos)

set_option maxHeartbeats 2000000 in
theorem same_any (at_ : Bool) (X Y : Value) (L M : List Tok) (hS : SameL at_ L M) (hn4 : L.length ≤ 100000) (w : World) (hX : Rt w X L) (hY : Rt w Y M) :
    Calls Tryd.prog 13 #[X, Y, .bool at_] w fun e w' => e = .returned (.bool true) ∧ ∃ m, w' = w.drewN m := by
  obtain ⟨n, hn⟩ : ∃ n, L.length = n := ⟨_, rfl⟩
  obtain ⟨A, c, rfl, hA⟩ := hX.open_
  obtain ⟨B, d, rfl, hB⟩ := hY.open_
  rw [← hS.1, hn]
  rw [hn] at hn4
  have HA := Lib.hid hA
  have HB := Lib.hid hB
  have HS := Lib.hid hS
  have HN := Lib.hid hn
  clear hA hB hS hn hX hY
  go_enter Tryd.func13, Tryd.ntmps13
  go_wp2
  go_loopw [7] (fun i wr => ∃ k : Nat, k ≤ n ∧ i = .int .i64 k ∧ ∃ m, wr = w.drewN m) (fun i _ => n - (intOf i).toNat)
  case atStart => exact ⟨0, by omega, rfl, 0, rfl⟩
  case round =>
    obtain ⟨k, hk, rfl, m, rfl⟩ := hrel
    by_cases hlt : k < n
    · have hkL : k < L.length := by have := HN.out; omega
      have hkM : k < M.length := by have := HN.out; have := HS.out.1; omega
      obtain ⟨t, ht⟩ : ∃ t, L[k]? = some t := ⟨_, List.getElem?_eq_getElem hkL⟩
      obtain ⟨u, hu⟩ : ∃ u, M[k]? = some u := ⟨_, List.getElem?_eq_getElem hkM⟩
      obtain ⟨ab, ao, rfl, a0, a1, a2, a3⟩ := HA.out k t ht
      obtain ⟨bb, bo, rfl, b0, b1, b2, b3⟩ := HB.out k u hu
      obtain ⟨e1, e2, e3, e4⟩ := HS.out.2 k t u ht hu
      rw [← e1] at b0
      rw [← e2] at b2
      rw [← e3] at b3
      clear ht hu e1 e2 e3
      cases at_
      · clear e4
        go_wp2_with fail
        go_quiet (fail)
        go_wp2
        go_roundw
        case rel => exact ⟨k + 1, by omega, by go_num, _, by first | rfl | (rw [World.drewN_drewN])⟩
        case measure => simp [intOf]; omega
      · rw [← e4 rfl] at b1
        clear e4
        go_wp2_with fail
        go_quiet (fail)
        go_wp2
        go_roundw
        case rel => exact ⟨k + 1, by omega, by go_num, _, by first | rfl | (rw [World.drewN_drewN])⟩
        case measure => simp [intOf]; omega
    · go_wp2
      go_ret
      exact ⟨rfl, m, rfl⟩
theorem SameL.refl (at_ : Bool) (L : List Tok) : SameL at_ L L := ⟨rfl, fun i t u h1 h2 => by
  rw [h1] at h2
  cases h2
  exact ⟨rfl, rfl, rfl, fun _ => rfl⟩⟩
theorem below_drewN {B : Nat} {a w : World} (h : Below B a w) (n : Nat) : Below B a (w.drewN n) := ⟨h.os, h.tape, h.output, h.size, h.block⟩
theorem same_bel (at_ : Bool) (X Y : Value) (L M : List Tok) (hS : SameL at_ L M) (hn4 : L.length ≤ 100000) (w : World) (hX : Rt w X L) (hY : Rt w Y M) :
    Calls Tryd.prog 13 #[X, Y, .bool at_] w fun e w' => e = .returned (.bool true) ∧ Below w.heap.size w w' :=
  (same_any at_ X Y L M hS hn4 w hX hY).mono fun e w' ⟨he, m, hm⟩ => ⟨he, by rw [hm]; exact below_drewN (Below.refl _ _) m⟩
end Go.Proofs.YtlpmeodphjpmeaaDoor.Lex
