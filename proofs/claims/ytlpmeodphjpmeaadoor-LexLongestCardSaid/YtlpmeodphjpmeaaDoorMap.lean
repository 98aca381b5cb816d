import Derived.Test.YtlpmeodphjpmeaaDoorMem
import Derived.Maps.OwnOps
import Derived.Maps.Views
/- lex.languageWords and the look-up in what it returns. -/
namespace Go.Proofs.YtlpmeodphjpmeaaDoor.Lex
open Go.ChangeShapes Go.WideShapes Go.ChangeAt Go.RowKit
open Go.WideMaps (keyOf_string_mk)

/-- Block b is a map of at most n entries, true just for the words of the list. -/
def OwnWords (w : World) (b n : Nat) (L : List (List UInt8)) : Prop :=
  ∃ D : DataW Unit, w.ownsMap Tryd.prog 9 (plainElem Tryd.prog 4) b n D ∧ Maps.IsMap D ∧ ∀ k, D.atKey (.string k) (.lit (.bool false)) = .lit (.bool (L.contains k))

theorem OwnWords.made (w : World) : OwnWords (w.alloc (.map #[] 0)) w.heap.size 0 [] :=
  ⟨.map [], World.ownsMap_made _ _ _ _, Maps.isMap_empty, fun _ => rfl⟩
theorem OwnWords.below {w w' : World} {b n : Nat} {L : List (List UInt8)} (h : OwnWords w b n L) (hb : Below w.heap.size w w') : OwnWords w' b n L := by
  obtain ⟨D, h1, h2, h3⟩ := h
  exact ⟨D, h1.kept (row := none) ⟨hb.os, hb.tape, hb.output, hb.size, fun i hi _ => hb.block i hi⟩ (by simp), h2, h3⟩
theorem OwnWords.lt {w : World} {b n : Nat} {L : List (List UInt8)} (h : OwnWords w b n L) : b < w.heap.size := by
  obtain ⟨D, h1, _⟩ := h
  exact h1.lt

theorem wpList_insert_word {ops : Array Oper} {rest : List Oper} {o : Oper} {a : Act} {w : World} {Q : Exit → Act → World → Prop} (hg : o.guard = none) (m : Operand) (k : ByteArray)
    (hop : o.op = Op.insert 41 m (.const (.string k)) (.const (.bool true))) (b n : Nat) (L : List (List UInt8)) (hm : a.eval m = .map (some b)) (hown : OwnWords w b n L) (hn : n < maxLen) (hk : k.size ≤ maxLen)
    (hK : ∀ w', OwnWords w' b (n + 1) (k.data.toList :: L) → w.grownBy w' (some b) → wpList Tryd.prog ops Q rest (a.put o.dst undef) w') :
    wpList Tryd.prog ops Q (o :: rest) a w := by
  obtain ⟨D, h1, h2, h3⟩ := hown
  refine wpList_plain hg fun K' hK' => ?_
  obtain ⟨w', hrun, r1, r2⟩ := h1.update (Maps.string_keyed Tryd.underlying9) Tryd.underlying41 hn (keyOf_string_mk (s := k) Tryd.underlying9 hk) (plainElem_bool Tryd.underlying4 true)
  unfold Oper.wp
  have e1 : a.eval (.const (.string k)) = .string k := rfl
  have e2 : a.eval (.const (.bool true)) = .bool true := rfl
  simp [execOp, hop, hm, e1, e2, hrun, Result.andThen]
  refine hK' _ _ (hK w' ⟨_, r1, h2.put _ _, fun q => ?_⟩ r2)
  by_cases hq : q = k.data.toList
  · subst hq
    rw [Maps.atKey_put_same h2 (by trivial)]
    simp
  · rw [Maps.atKey_put_other (by intro e; cases e; exact hq rfl), h3]
    simp [hq]

theorem wpList_lookup_word {ops : Array Oper} {rest : List Oper} {o : Oper} {a : Act} {w : World} {Q : Exit → Act → World → Prop} (hg : o.guard = none) (m x : Operand)
    (hop : o.op = Op.lookup 41 m x false) (b n : Nat) (L : List (List UInt8)) (hm : a.eval m = .map (some b)) (hown : OwnWords w b n L) (s : ByteArray) (hx : a.eval x = .string s) (hs : s.size ≤ maxLen)
    (hK : wpList Tryd.prog ops Q rest (a.put o.dst (.bool (L.contains s.data.toList))) w) :
    wpList Tryd.prog ops Q (o :: rest) a w := by
  obtain ⟨D, h1, h2, h3⟩ := hown
  refine wpList_plain hg fun K' hK' => ?_
  obtain ⟨v, ps, hrun, hv⟩ := h1.lookup (Maps.string_keyed Tryd.underlying9) Tryd.underlying41 (z := .bool false) (by kernel_rfl) (plainElem_bool Tryd.underlying4 false) (keyOf_string_mk (s := s) Tryd.underlying9 hs)
  have e : v = .bool (L.contains s.data.toList) := by
    rw [h3] at hv
    unfold plainElem at hv
    rw [Tryd.underlying4] at hv
    cases v <;> simp at hv
    rw [hv.1]
    simp
  unfold Oper.wp
  simp [execOp, hop, hm, hx, hrun, Result.andThen]
  exact hK' _ _ (e ▸ hK)
end Go.Proofs.YtlpmeodphjpmeaaDoor.Lex
