import Derived.Test.YtdlfgfghjdobjaaRows
import Derived.WalkKit
import Derived.ProofKit
import Derived.Below
import Derived.Laws.EntriesVeiled
import Derived.Outline
import Derived.Great.BuildSlice
import Derived.Deep.WholeRow
import Derived.Deep.MidRow
import Derived.Lib.Hide
namespace Go.Proofs.Ytdlfgfghjdobjaa.Num
open Go.ChangeShapes Go.WideShapes Go.ChangeAt Go.RowKit

theorem below_succ {p : Nat → Prop} {n : Nat} (h : ∀ i, i < n → p i) (hn : p n) : ∀ i, i < n + 1 → p i := by
  intro i hi
  by_cases e : i = n
  · subst e; exact hn
  · exact h i (by omega)
theorem below_zero {p : Nat → Prop} : ∀ i, i < 0 → p i := fun i h => absurd h (Nat.not_lt_zero i)

def sgn : Nat → List UInt8
  | 0 => [43] | 1 => [45] | 2 => [42] | 3 => [47] | 4 => [37] | 5 => [38] | 6 => [124] | 7 => [94] | 8 => [60, 60] | 9 => [62, 62] | 10 => [62, 62, 62]
  | 11 => [60] | 12 => [60, 61] | 13 => [61, 61] | 14 => [33, 61] | 15 => [60, 58] | 16 => [38, 38] | 17 => [124, 124] | 18 => [109, 105, 110] | 19 => [109, 97, 120] | _ => []
def com : Nat → Bool
  | 0 | 2 | 5 | 6 | 7 | 13 | 14 | 16 | 17 | 18 | 19 => true | _ => false
def fol : Nat → Bool
  | 0 | 5 | 6 | 7 | 18 | 19 => true | _ => false
def neu : Nat → Int
  | 5 => -1 | 18 => 2147483647 | 19 => -2147483648 | _ => 0
def row (i : Nat) : List Value := [.string ⟨(sgn i).toArray⟩, .func (.func (40 + i)) #[] #[], .bool (com i), .bool (fol i), .int .i32 (neu i)]
def tabL : List Value := (List.range 20).flatMap row
def tab : Array Value := tabL.toArray

theorem tab_get0 : ∀ i, i < 20 → tab[i * 5]? = some (.string ⟨(sgn i).toArray⟩) := by
  repeat (first | exact below_zero | refine below_succ ?_ (by kernel_rfl))
theorem tab_get1 : ∀ i, i < 20 → tab[i * 5 + 1]? = some (.func (.func (40 + i)) #[] #[]) := by
  repeat (first | exact below_zero | refine below_succ ?_ (by kernel_rfl))
theorem tab_get2 : ∀ i, i < 20 → tab[i * 5 + 2]? = some (.bool (com i)) := by
  repeat (first | exact below_zero | refine below_succ ?_ (by kernel_rfl))
theorem tab_get3 : ∀ i, i < 20 → tab[i * 5 + 3]? = some (.bool (fol i)) := by
  repeat (first | exact below_zero | refine below_succ ?_ (by kernel_rfl))
theorem tab_get4 : ∀ i, i < 20 → tab[i * 5 + 4]? = some (.int .i32 (neu i)) := by
  repeat (first | exact below_zero | refine below_succ ?_ (by kernel_rfl))
theorem tab_one : tab.all (·.oneCell') = true := by kernel_rfl

theorem store_new {P : Program} {ops : Array Oper} {rest : List Oper} {o : Oper} {a : Act} {w : World} {Q : Exit → Act → World → Prop} (hgd : o.guard = none) (ty : TypeId) (x y : Operand) (ho : o.op = .store ty x y)
    (hd : o.dst = none) (g : Nat) (hgw : g = w.heap.size) (cells : Array Value) (hx : a.eval x = .pointer (some ⟨g, 0, none⟩)) (hy : a.eval y = .agg cells)
    (t : TypeId) (old : Array Value) (hi : (P.info? ty).map (·.size) = some cells.size)
    (hold : old.size = cells.size) (h1 : cells.all (·.oneCell') = true)
    (h : wpList P ops Q rest a (w.alloc (.cells cells t))) : wpList P ops Q (o :: rest) a (w.alloc (.cells old t)) := by
  subst hgw
  refine wpList_store_rowTo hgd ty x y ho hd w.heap.size cells hx hy t old (heap_alloc_last w _) hi hold h1 ?_
  rw [World.setRow_alloc_new]
  exact h

set_option maxHeartbeats 400000 in
theorem find_in (i : Nat) (hi : i < 20) (w : World) : Calls Try.prog 32 #[.int .i64 i] w fun e w' => e = .returned (.tuple #[.agg (row i).toArray, .bool true]) ∧ Below w.heap.size w w' := by
  have t0 := tab_get0 i hi
  have t1 := tab_get1 i hi
  have t2 := tab_get2 i hi
  have t3 := tab_get3 i hi
  have t4 := tab_get4 i hi
  go_enter Try.func32, Try.ntmps32
  go_wp2_with (first | (refine wpList_buildTo rfl 56 _ rfl (some 32) rfl tab (by as_aux_lemma => kernel_rfl) ?_) | (refine store_new rfl 56 _ _ rfl rfl (w.heap.size + 1) (by simp) tab rfl rfl 56 _ (by as_aux_lemma => kernel_rfl) (by as_aux_lemma => kernel_rfl) tab_one ?_))
  exact bodyPost_ret (v := .tuple #[.agg (row i).toArray, .bool true]) (by simp [results, Try.results32, go_sem, row]) rfl ⟨rfl, ((Below.refl _ _).alloc (Nat.le_refl _) _).alloc (by simp) _⟩

def row0 : Array Value := #[.string ⟨#[]⟩, .nilFunc, .bool false, .bool false, .int .i32 0]

set_option maxHeartbeats 400000 in
theorem find_out (i : Int) (h : i < 0 ∨ 20 ≤ i) (w : World) : Calls Try.prog 32 #[.int .i64 i] w fun e w' => e = .returned (.tuple #[.agg row0, .bool false]) ∧ Below w.heap.size w w' := by
  rcases h with h | h
  · go_enter Try.func32, Try.ntmps32
    go_wp2
    exact bodyPost_ret (v := .tuple #[.agg row0, .bool false]) (by simp [results, Try.results32, go_sem, row0]) rfl ⟨rfl, ((Below.refl _ _).alloc (Nat.le_refl _) _)⟩
  · have h' : ¬ i < 0 := by omega
    go_enter Try.func32, Try.ntmps32
    go_wp2
    exact bodyPost_ret (v := .tuple #[.agg row0, .bool false]) (by simp [results, Try.results32, go_sem, row0]) rfl ⟨rfl, ((Below.refl _ _).alloc (Nat.le_refl _) _)⟩
end Go.Proofs.Ytdlfgfghjdobjaa.Num
