import Derived.Test.YtlpmeodphjpmeaaDoorLeaf
import Derived.OwnWalk
import Derived.Laws.OwnMore
import Derived.Laws.IdiomStrings
import Derived.Laws.Rows
import Derived.Laws.Concat
/- Slices of bytes and strings; newToken. -/
namespace Go.Proofs.YtlpmeodphjpmeaaDoor.Lex
open Go.ChangeShapes Go.WideShapes Go.ChangeAt Go.RowKit

/-- A byte as a cell. -/
def byteV (c : UInt8) : Value := .int .u8 (c.toNat : Int)
def byteCells (l : List UInt8) : List Value := l.map byteV
theorem byteCells_len (l : List UInt8) : (byteCells l).length = l.length := by simp [byteCells]
theorem byteCells_append (l m : List UInt8) : byteCells l ++ byteCells m = byteCells (l ++ m) := by simp [byteCells]
theorem byteCells_one (l : List UInt8) : ∀ u ∈ byteCells l, u.oneCell' = true := by
  intro u hu
  obtain ⟨_, _, rfl⟩ := List.mem_map.1 hu
  rfl
/-- The slice X reads as the bytes l. -/
def Rb (w : World) (X : Value) (l : List UInt8) : Prop :=
  (X = .slice none 0 0 ∧ l = []) ∨ ∃ x c, X = .slice (some x) l.length c ∧ ∀ j u, (byteCells l)[j]? = some u → w.cell? (x.add j) = some u

theorem Rb.own {w : World} {base n : Nat} {v : Value} {l : List UInt8} (h : w.ownsRow base 5 1 v n (byteCells l)) : Rb w v l := by
  have hl : l.length = n := by have := h.1; rw [byteCells_len] at this; omega
  rcases h.2 with ⟨hv, hn⟩ | ⟨g, cap, cur, hv, _, _⟩
  · exact .inl ⟨hv, List.eq_nil_of_length_eq_zero (hl.trans hn)⟩
  · refine .inr ⟨⟨g, 0, none⟩, cap, by rw [hv, hl], fun j u hu => h.cells (by rw [hv]; rfl) j u hu⟩

theorem Rb.back {w : World} {X : Value} {l : List UInt8} (h : Rb w X l) : (convert 38 9 X).run Tryd.prog w = .ok (.string (bs l)) w := by
  rcases h with ⟨hX, hl⟩ | ⟨x, c, hX, hc⟩
  · subst hX; subst hl
    rw [run_convert_bytes_string w 38 9 5 none 0 0 Tryd.underlying38 Tryd.underlying5 Tryd.underlying9]
    simp [Conv.bytesToString]
    rfl
  · subst hX
    exact run_convert_bytes_back w 38 9 5 x c l Tryd.underlying38 Tryd.underlying5 Tryd.underlying9 (fun j hj => hc j _ (by simp [byteCells, hj, byteV]))

/-- '[]byte(s)'. -/
theorem wpList_to_bytes {ops : Array Oper} {rest : List Oper} {o : Oper} {a : Act} {w : World} {Q : Exit → Act → World → Prop} (hgd : o.guard = none) (x : Operand) (ho : o.op = .convert 9 38 x) (s : ByteArray) (hx : a.eval x = .string s)
    (h : ∀ X w', Rb w' X s.data.toList → Below w.heap.size w w' → wpList Tryd.prog ops Q rest (a.put o.dst X) w') : wpList Tryd.prog ops Q (o :: rest) a w := by
  have hr := run_bytes_of_string (P := Tryd.prog) w 9 38 5 s Tryd.underlying9 Tryd.underlying38 Tryd.underlying5
  refine wpList_plain hgd fun _ hK => ?_
  unfold Oper.wp execOp
  simp only [ho, hx, Sem.run_bind, hr, Sem.run_pure, Result.andThen_ok]
  refine hK _ _ (h _ _ (.inr ⟨⟨w.heap.size, 0, none⟩, _, by rw [size_toList], fun j u hu => ?_⟩) ?_)
  · obtain ⟨hj, hu'⟩ := List.getElem?_eq_some_iff.1 hu
    rw [byteCells_len] at hj
    have hj' : j < s.size := by rw [← size_toList]; exact hj
    have hadd : (⟨w.heap.size, 0, none⟩ : Addr).add j = ⟨w.heap.size, j, none⟩ := by unfold Addr.add; split <;> simp_all
    rw [hadd]
    have hw : (w.drew.alloc (.cells (bytesRow s (grownCap w s.size 0 5)) 5 ((bytesRow s (grownCap w s.size 0 5)).size, (bytesRow s (grownCap w s.size 0 5)).size + 1))).heap[w.heap.size]? = some (.cells (bytesRow s (grownCap w s.size 0 5)) 5 ((bytesRow s (grownCap w s.size 0 5)).size, (bytesRow s (grownCap w s.size 0 5)).size + 1)) := by
      show (w.heap.push _)[w.heap.size]? = _
      simp
    rw [cell_of_row _ _ j _ 5 _ hw]
    have hd : j < (s.data.map (fun b => Value.int .u8 b.toNat)).size := by rw [Array.size_map]; exact hj'
    simp only [bytesRow]
    rw [Array.getElem?_append_left hd, Array.getElem?_eq_getElem hd]
    simp [byteCells, byteV] at hu'
    simp [← hu']
  · exact (Below.refl _ _).drew.alloc (Nat.le_refl _) _

/-- 'string(b)'. -/
theorem wpList_of_bytes {ops : Array Oper} {rest : List Oper} {o : Oper} {a : Act} {w : World} {Q : Exit → Act → World → Prop} (hgd : o.guard = none) (x : Operand) (ho : o.op = .convert 38 9 x) (X : Value) (l : List UInt8) (hx : a.eval x = X) (hR : Rb w X l)
    (h : wpList Tryd.prog ops Q rest (a.put o.dst (.string (bs l))) w) : wpList Tryd.prog ops Q (o :: rest) a w := by
  refine wpList_plain hgd fun _ hK => ?_
  unfold Oper.wp execOp
  simp only [ho, hx, Sem.run_bind, hR.back, Sem.run_pure, Result.andThen_ok]
  exact hK _ _ h

theorem bcell {W w1 : World} (hb : Below W.heap.size W w1) : (∀ b o, b < W.heap.size → w1.cell? ⟨b, o, none⟩ = W.cell? ⟨b, o, none⟩) ∧ (∀ b o, b < W.heap.size → w1.frozen? ⟨b, o, none⟩ = W.frozen? ⟨b, o, none⟩) :=
  ⟨fun b o h => hb.cell (p := ⟨b, o, none⟩) h, fun b o h => hb.frozen (p := ⟨b, o, none⟩) h⟩

/-- A token's four cells. -/
def tokA (kind pos : Int) (text : ByteArray) (num : Int) : Array Value := #[.int .i64 kind, .int .i64 pos, .string text, .int .i32 num]

theorem newToken_any (k : Int) (s : ByteArray) (hs : s.size ≤ maxLen) (w : World) :
    Calls Tryd.prog 43 #[.int .i64 k, .string s] w fun e w' => e = .returned (.agg #[.int .i64 k, .int .i64 0, .string s, .int .i32 0]) ∧ Below w.heap.size w w' := by
  go_enter Tryd.func43, Tryd.ntmps43
  go_wp2_with (first | (refine wpList_to_bytes rfl _ rfl s rfl ?_; intro X w1 hX hb; obtain ⟨hc, hf⟩ := bcell hb; have hz := hb.size) | (refine wpList_of_bytes rfl _ rfl _ _ rfl hX ?_; rw [bs_self]))
  exact bodyPost_ret (v := .agg #[.int .i64 k, .int .i64 0, .string s, .int .i32 0]) (by simp [results, Tryd.results43, go_sem, hc, hf]) rfl ⟨rfl, by
    repeat (first | exact ((Below.refl _ _).alloc (Nat.le_refl _) _).trans (hb.mono (by simp)) | refine Below.setCell ?_ (by simp) _)⟩
end Go.Proofs.YtlpmeodphjpmeaaDoor.Lex
