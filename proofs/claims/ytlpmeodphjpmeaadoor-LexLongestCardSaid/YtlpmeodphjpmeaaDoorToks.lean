import Derived.Test.YtlpmeodphjpmeaaDoorRead
import Derived.Maps.AppendAt
/- Slices of tokens: what a value reads as; an append onto a slice of the call's own; how far the scanning has come. -/
namespace Go.Proofs.YtlpmeodphjpmeaaDoor.Lex
open Go.ChangeShapes Go.WideShapes Go.ChangeAt Go.RowKit

def tokCells (t : Tok) : List Value := [.int .i64 t.kind, .int .i64 t.pos, .string (bs t.text), .int .i32 t.num]
def cellsT (L : List Tok) : List Value := L.flatMap tokCells
theorem cellsT_len (L : List Tok) : (cellsT L).length = L.length * 4 := by
  induction L with
  | nil => rfl
  | cons t r ih => rw [cellsT, List.flatMap_cons, List.length_append, show (r.flatMap tokCells).length = r.length * 4 from ih, List.length_cons]; simp [tokCells]; omega
theorem cellsT_append (L M : List Tok) : cellsT L ++ cellsT M = cellsT (L ++ M) := by simp [cellsT]
theorem cellsT_at {L : List Tok} {i : Nat} {t : Tok} (h : L[i]? = some t) (j : Nat) (hj : j < 4) : (cellsT L)[i * 4 + j]? = (tokCells t)[j]? := by
  induction L generalizing i with
  | nil => simp at h
  | cons u r ih =>
    cases i with
    | zero =>
      simp at h
      subst h
      rw [cellsT, List.flatMap_cons, List.getElem?_append_left (by simp [tokCells]; omega)]
      simp
    | succ i =>
      simp at h
      rw [cellsT, List.flatMap_cons, List.getElem?_append_right (by simp [tokCells]; omega)]
      have e : (i + 1) * 4 + j - (tokCells u).length = i * 4 + j := by simp [tokCells]; omega
      rw [e]
      exact ih h
theorem tokCells_one (t : Tok) : ∀ u ∈ tokCells t, u.oneCell' = true := by
  intro u hu
  simp [tokCells] at hu
  rcases hu with rfl | rfl | rfl | rfl <;> rfl

/-- The slice X reads as the tokens L. -/
def Rt (w : World) (X : Value) (L : List Tok) : Prop :=
  (X = .slice none 0 0 ∧ L = []) ∨ ∃ x c, X = .slice (some x) L.length c ∧ ∀ j u, (cellsT L)[j]? = some u → w.cell? (x.add j) = some u
theorem Rt.below {w w' : World} {X : Value} {L : List Tok} (h : Rt w X L) (k : Below w.heap.size w w') : Rt w' X L := by
  rcases h with h | ⟨x, c, hX, hc⟩
  · exact .inl h
  · refine .inr ⟨x, c, hX, fun j u hu => ?_⟩
    have e := hc j u hu
    exact (k.cell (World.block_lt_of_cell? w _ e)).trans e

/-- v is a slice of the call's own of just these tokens. -/
def OwnT (w : World) (base : Nat) (v : Value) (L : List Tok) : Prop := w.ownsRow base 30 4 v L.length (cellsT L)
theorem OwnT.nil (w : World) (base : Nat) : OwnT w base (.slice none 0 0) [] := ⟨rfl, .inl ⟨rfl, rfl⟩⟩
theorem OwnT.rt {w : World} {base : Nat} {v : Value} {L : List Tok} (h : OwnT w base v L) : Rt w v L := by
  rcases h.2 with ⟨hv, hn⟩ | ⟨g, cap, cur, hv, _, _⟩
  · exact .inl ⟨hv, List.eq_nil_of_length_eq_zero hn⟩
  · refine .inr ⟨⟨g, 0, none⟩, cap, hv, fun j u hu => World.ownsRow.cells h (by rw [hv]; rfl) j u hu⟩
theorem OwnT.below {w w' : World} {base : Nat} {v : Value} {L : List Tok} (h : OwnT w base v L) (hb : Below w.heap.size w w') : OwnT w' base v L := by
  refine ⟨h.1, ?_⟩
  rcases h.2 with hv | ⟨g, cap, cur, hv, h1, h2, h3⟩
  · exact .inl hv
  · exact .inr ⟨g, cap, cur, hv, h1, (hb.block g (Array.getElem?_eq_some_iff.1 h2).1).trans h2, h3⟩
theorem info30 : (Tryd.prog.info? 30).map (fun i => (i.zero, i.size, i.bytes)) = some (some (.agg #[.int .i64 0, .int .i64 0, .string ⟨#[]⟩, .int .i32 0]), 4, 40) := by kernel_rfl

/-- An append of one token. -/
theorem wpList_append_tok {ops : Array Oper} {rest : List Oper} {o : Oper} {a : Act} {W : World} {Q : Exit → Act → World → Prop} (hgd : o.guard = none) (s x : Operand)
    (ho : o.op = .call { callee := .builtin .append, args := #[s, x], argTypes := #[23, 23] }) (base : Nat) (v : Value) (L : List Tok) (t : Tok)
    (hs : a.eval s = v) (hown : OwnT W base v L) (g : Nat) (hg : g = W.heap.size) (hx : a.eval x = .slice (some ⟨g, 0, none⟩) 1 1) (hl : L.length ≤ 1000000) (hbase : base ≤ W.heap.size)
    (h : ∀ v' w', OwnT w' base v' (L ++ [t]) → Below base W w' → (∀ g, g < W.heap.size → v.ownBlock ≠ some g → w'.heap[g]? = W.heap[g]?) → W.heap.size ≤ w'.heap.size → wpList Tryd.prog ops Q rest (a.put o.dst v') w') :
    wpList Tryd.prog ops Q (o :: rest) a (W.alloc (.cells #[.int .i64 t.kind, .int .i64 t.pos, .string (bs t.text), .int .i32 t.num] 30)) := by
  subst hg
  obtain ⟨i, hi, hz, hs1, hb⟩ := info_parts info30
  have hown' : (W.alloc (.cells #[.int .i64 t.kind, .int .i64 t.pos, .string (bs t.text), .int .i32 t.num] 30)).ownsRow base 30 4 v L.length (cellsT L) :=
    hown.below ((Below.refl _ _).alloc (Nat.le_refl _) _)
  refine wpList_append_own _ hgd s x 23 ho base 30 i _ 4 40 Tryd.underlying23 hi hz hs1 hb rfl (by decide) v L.length (cellsT L) hs hown' ⟨W.heap.size, 0, none⟩ 1 1 (tokCells t) hx rfl ?_ (tokCells_one t) (by unfold maxLen; omega) (by omega) (by simp; omega) ?_
  · intro j u hu
    have hadd : (⟨W.heap.size, 0, none⟩ : Addr).add j = ⟨W.heap.size, j, none⟩ := by unfold Addr.add; split <;> simp_all
    rw [hadd, cell_of_row _ _ j #[.int .i64 t.kind, .int .i64 t.pos, .string (bs t.text), .int .i32 t.num] 30 (0, 0) (by show (W.heap.push _)[W.heap.size]? = _; simp)]
    rw [← hu]
    simp [tokCells]
  · intro v' w' h1 h2 _
    have e : cellsT L ++ tokCells t = cellsT (L ++ [t]) := by rw [← cellsT_append]; simp [cellsT]
    rw [e] at h1
    have hall : W.grownBy w' v.ownBlock := (World.grownBy_alloc _ _ _).trans h2
    refine h v' w' ?_ ((Below.refl base W).grown hall hbase (fun k hk => ((World.ownsRow.lt hown) k hk).1)) (fun g hg hne => hall.block g hg (fun e => hne e.symm)) hall.size
    unfold OwnT
    rw [List.length_append]
    exact h1

/-- How far the scanning has come: L, and what is still to come from place p on. -/
def ScRel (l : List UInt8) (L : List Tok) (p : Nat) : Prop := sc l 0 = (L ++ (sc (l.drop p) p).1, (sc (l.drop p) p).2)
theorem ScRel.zero (l : List UInt8) : ScRel l [] 0 := by unfold ScRel; simp
theorem ScRel.blank {s : ByteArray} {L : List Tok} {k : Nat} (h : ScRel s.data.toList L k) (hk : k < s.size) (hb : blkN (s[k].toNat : Int) = true) : ScRel s.data.toList L (k + 1) := by
  unfold ScRel at h ⊢
  rw [h, drop_cons s k hk, sc_blank _ _ hb]
theorem ScRel.hash {s : ByteArray} {L : List Tok} {k : Nat} (h : ScRel s.data.toList L k) (hk : k < s.size) (hb : (s[k].toNat : Int) = 35) : ScRel s.data.toList L (k + cnt noE (s.data.toList.drop k)) := by
  have hc : s[k] = 35 := by
    apply UInt8.toNat_inj.1
    have : s[k].toNat = 35 := by omega
    rw [this]; rfl
  unfold ScRel at h ⊢
  have e := drop_cons s k hk
  rw [hc] at e
  rw [h, ← List.drop_drop, e, sc_hash]
theorem not_hash {c : UInt8} (h : ¬ (c.toNat : Int) = 35) : c ≠ 35 := by rintro rfl; exact h (by decide)
theorem ScRel.bad {s : ByteArray} {L : List Tok} {k : Nat} (h : ScRel s.data.toList L k) (hk : k < s.size) (hb : blkN (s[k].toNat : Int) = false) (h35 : ¬ (s[k].toNat : Int) = 35) (ht : tokenAt (s.data.toList.drop k) = none) : (sc s.data.toList 0).2 = some k := by
  unfold ScRel at h
  have e := drop_cons s k hk
  rw [h, e, sc_bad (not_hash h35) hb (by rw [← e]; exact ht)]
theorem ScRel.tok {s : ByteArray} {L : List Tok} {k : Nat} {t : Tok} (h : ScRel s.data.toList L k) (hk : k < s.size) (hb : blkN (s[k].toNat : Int) = false) (h35 : ¬ (s[k].toNat : Int) = 35) (ht : tokenAt (s.data.toList.drop k) = some t) :
    ScRel s.data.toList (L ++ [{ t with pos := (k : Int) }]) (k + t.text.length) := by
  unfold ScRel at h ⊢
  have e := drop_cons s k hk
  have e2 : (s.data.toList).drop (k + t.text.length) = (s[k] :: (s.data.toList).drop (k + 1)).drop t.text.length := by rw [← e, List.drop_drop]
  rw [h, e2, e, sc_tok (not_hash h35) hb (by rw [← e]; exact ht)]
  rw [List.append_assoc]; rfl
theorem ScRel.last {s : ByteArray} {L : List Tok} {k : Nat} (h : ScRel s.data.toList L k) (hk : s.size ≤ k) : sc s.data.toList 0 = (L, none) := by
  unfold ScRel at h
  rw [h, drop_nil s k hk, sc_nil]; simp
end Go.Proofs.YtlpmeodphjpmeaaDoor.Lex
