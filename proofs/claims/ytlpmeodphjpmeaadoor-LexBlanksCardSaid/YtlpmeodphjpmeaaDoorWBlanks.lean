import Derived.Test.YtlpmeodphjpmeaaDoorWCovers
import Derived.Test.YtlpmeodphjpmeaaDoorRJoin
import Derived.Test.YtlpmeodphjpmeaaDoorCMath
import Derived.Test.YtlpmeodphjpmeaaDoorRef
/- The walk of the law of blanks. -/
namespace Go.Proofs.YtlpmeodphjpmeaaDoor.Lex
open Go.ChangeShapes Go.WideShapes Go.ChangeAt Go.RowKit

def gapsL : List (List UInt8) := [[32], [10], [9, 32], [32, 13, 10], [35, 32, 99, 10], [32, 35, 10, 32], [35, 59, 32, 108, 101, 116, 32, 49, 97, 32, 36, 10], [32, 32]]
theorem gapsL_at : ∀ k, k < 8 → gapsL.getD k [] = gapS k := by
  repeat (first | exact below_zero | refine below_succ ?_ (by decide))
theorem gap_cells (w : World) (k : Nat) (hk : k < 8) : (w.alloc (.cells (strA gapsL) 9)).cell? ⟨w.heap.size, k, none⟩ = some (.string (bs (gapS k))) := by
  have := Rs.new w gapsL 9 k hk
  rw [gapsL_at k hk] at this
  exact this

set_option maxHeartbeats 1000000 in
theorem gap_any (c : UInt8) (w : World) : Calls Tryd.prog 22 #[.int .u8 (c.toNat : Int)] w fun e w' => e = .returned (.string (bs (gapS (c.toNat % 8)))) ∧ Below w.heap.size w w' := by
  obtain ⟨n, hn⟩ : ∃ n : Nat, c.toNat = n := ⟨_, rfl⟩
  have hn2 : n < 256 := by rw [← hn]; exact c.toNat_lt
  rw [hn]
  clear hn
  obtain ⟨k, hk⟩ : ∃ k, n % 8 = k := ⟨_, rfl⟩
  have hk8 : k < 8 := by omega
  have hmod : (n : Int).tmod 8 = (k : Int) := by rw [← hk]; rfl
  have hmod2 : (n : Int) % 8 = (k : Int) := by omega
  have hn3 : (n : Int) ≤ 255 := by omega
  rw [hk]
  clear hk
  have h8 : k = 0 ∨ k = 1 ∨ k = 2 ∨ k = 3 ∨ k = 4 ∨ k = 5 ∨ k = 6 ∨ k = 7 := by omega
  rcases h8 with rfl | rfl | rfl | rfl | rfl | rfl | rfl | rfl
  all_goals
    go_enter Tryd.func22, Tryd.ntmps22
    go_wp2
    go_ret
    exact ⟨rfl, (Below.refl _ _).alloc (Nat.le_refl _) _⟩

theorem gap_n (n : Nat) (hn : n < 256) (g : List UInt8) (hg : gapS (n % 8) = g) (w : World) : Calls Tryd.prog 22 #[.int .u8 (n : Nat)] w fun e w' => e = .returned (.string (bs g)) ∧ Below w.heap.size w w' := by
  have h := gap_any (UInt8.ofNat n) w
  rw [show (UInt8.ofNat n).toNat = n by simp; omega, hg] at h
  exact h
/-- Byte i of the slice at A. -/
def ByteAt (w : World) (A : Option Addr) (i : Nat) (c : UInt8) : Prop := ∃ b off, A = some ⟨b, off, none⟩ ∧ w.cell? ⟨b, off + i, none⟩ = some (.int .u8 (c.toNat : Int))
theorem Rb.open_ {w : World} {X : Value} {l : List UInt8} (h : Rb w X l) : ∃ A c, X = .slice A l.length c ∧ ∀ i c, l[i]? = some c → ByteAt w A i c := by
  rcases h with ⟨hX, hl⟩ | ⟨x, c, hX, hc⟩
  · subst hl
    exact ⟨none, 0, hX, fun i t h => by simp at h⟩
  · refine ⟨some x, c, hX, fun i t ht => ?_⟩
    have h0 := hc i _ (show (byteCells l)[i]? = some (byteV t) by simp [byteCells, ht])
    obtain ⟨b, off, sp⟩ := x
    have hsp : sp = none := by
      have hl : 0 < l.length := by have := (List.getElem?_eq_some_iff.1 ht).1; omega
      have h := hc 0 _ (show (byteCells l)[0]? = some (byteV l[0]) by simp [byteCells, hl])
      simpa [Addr.add] using World.cell?_spot h
    subst hsp
    have hadd : ∀ j, (⟨b, off, none⟩ : Addr).add j = ⟨b, off + j, none⟩ := fun j => by unfold Addr.add; split <;> simp_all
    rw [hadd] at h0
    exact ⟨b, off, rfl, h0⟩
theorem Rb.below {w w' : World} {X : Value} {l : List UInt8} (h : Rb w X l) (k : Below w.heap.size w w') : Rb w' X l := by
  rcases h with h | ⟨x, c, hX, hc⟩
  · exact .inl h
  · refine .inr ⟨x, c, hX, fun j u hu => ?_⟩
    have e := hc j u hu
    exact (k.cell (World.block_lt_of_cell? w _ e)).trans e

/-- Which gap stands at place i. -/
def gapB (l : List UInt8) (i : Nat) : Nat := if i < l.length then (l.getD i 0).toNat else i % 256
def gapK (l : List UInt8) (i : Nat) : Nat := gapB l i % 8
theorem gapB_lt (l : List UInt8) (i : Nat) : gapB l i < 256 := by
  unfold gapB; split
  · exact (l.getD i 0).toNat_lt
  · omega
/-- How far the text with gaps has come. -/
def AccRel (ks : Nat → Nat) (T : List (List UInt8)) (k : Nat) (acc : List UInt8) : Prop :=
  (k ≤ T.length ∧ acc ++ blk ks k (T.drop k) = blk ks 0 T) ∨ (k = T.length + 1 ∧ acc = blk ks 0 T)
theorem AccRel.tok {ks : Nat → Nat} {T : List (List UInt8)} {k : Nat} {acc t : List UInt8} (h : AccRel ks T k acc) (ht : T[k]? = some t) : AccRel ks T (k + 1) (acc ++ gapS (ks k) ++ t) ∧ (acc ++ gapS (ks k) ++ t).length ≤ (blk ks 0 T).length := by
  have hl := (List.getElem?_eq_some_iff.1 ht).1
  rcases h with ⟨_, h⟩ | ⟨h, _⟩
  · rw [drop_succ ht] at h
    have h2 : acc ++ gapS (ks k) ++ t ++ blk ks (k + 1) (T.drop (k + 1)) = blk ks 0 T := by rw [← h]; simp [blk]
    refine ⟨.inl ⟨hl, h2⟩, ?_⟩
    rw [← h2]; simp
  · omega
theorem AccRel.end_ {ks : Nat → Nat} {T : List (List UInt8)} {k : Nat} {acc : List UInt8} (h : AccRel ks T k acc) (hk : k = T.length) : acc ++ gapS (ks k) = blk ks 0 T := by
  rcases h with ⟨_, h⟩ | ⟨h, _⟩
  · rw [List.drop_eq_nil_of_le (by omega)] at h
    exact h
  · omega
end Go.Proofs.YtlpmeodphjpmeaaDoor.Lex
