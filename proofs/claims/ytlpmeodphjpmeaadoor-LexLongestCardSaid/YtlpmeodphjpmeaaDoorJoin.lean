import Derived.Test.YtlpmeodphjpmeaaDoorJMath
import Derived.Test.YtlpmeodphjpmeaaDoorSame
import Derived.Lib.AppendStr
/- lex.Join and the reference's Join. -/
namespace Go.Proofs.YtlpmeodphjpmeaaDoor.Lex
open Go.ChangeShapes Go.WideShapes Go.ChangeAt Go.RowKit

/-- v is a slice of the call's own of just these bytes. -/
def OwnB (w : World) (base : Nat) (v : Value) (l : List UInt8) : Prop := w.ownsRow base 5 1 v l.length (byteCells l)
theorem OwnB.nil (w : World) (base : Nat) : OwnB w base (.slice none 0 0) [] := ⟨rfl, .inl ⟨rfl, rfl⟩⟩
theorem OwnB.below {w w' : World} {base : Nat} {v : Value} {l : List UInt8} (h : OwnB w base v l) (hb : Below w.heap.size w w') : OwnB w' base v l := by
  refine ⟨h.1, ?_⟩
  rcases h.2 with hv | ⟨g, cap, cur, hv, h1, h2, h3⟩
  · exact .inl hv
  · exact .inr ⟨g, cap, cur, hv, h1, (hb.block g (Array.getElem?_eq_some_iff.1 h2).1).trans h2, h3⟩
theorem OwnB.rb {w : World} {base : Nat} {v : Value} {l : List UInt8} (h : OwnB w base v l) : Rb w v l := Rb.own h
theorem info5 : (Tryd.prog.info? 5).map (fun i => (i.zero, i.size, i.bytes)) = some (some (.int .u8 0), 1, 1) := by kernel_rfl

/-- An append of the byte 32. -/
theorem wpList_append_blank {ops : Array Oper} {rest : List Oper} {o : Oper} {a : Act} {W : World} {Q : Exit → Act → World → Prop} (hgd : o.guard = none) (s x : Operand)
    (ho : o.op = .call { callee := .builtin .append, args := #[s, x], argTypes := #[38, 38] }) (base : Nat) (v : Value) (l : List UInt8)
    (hs : a.eval s = v) (hown : OwnB W base v l) (g : Nat) (hg : g = W.heap.size) (hx : a.eval x = .slice (some ⟨g, 0, none⟩) 1 1) (hl : l.length ≤ 1000000) (hbase : base ≤ W.heap.size)
    (h : ∀ v' w', OwnB w' base v' (l ++ [32]) → Below base W w' → (∀ g, g < W.heap.size → v.ownBlock ≠ some g → w'.heap[g]? = W.heap[g]?) → W.heap.size ≤ w'.heap.size → wpList Tryd.prog ops Q rest (a.put o.dst v') w') :
    wpList Tryd.prog ops Q (o :: rest) a (W.alloc (.cells #[.int .u8 32] 5)) := by
  subst hg
  obtain ⟨i, hi, hz, hs1, hb⟩ := info_parts info5
  have hown' : (W.alloc (.cells #[.int .u8 32] 5)).ownsRow base 5 1 v l.length (byteCells l) :=
    hown.below ((Below.refl _ _).alloc (Nat.le_refl _) _)
  refine wpList_append_own _ hgd s x 38 ho base 5 i _ 1 1 Tryd.underlying38 hi hz hs1 hb rfl (by decide) v l.length (byteCells l) hs hown' ⟨W.heap.size, 0, none⟩ 1 1 [.int .u8 32] hx rfl ?_ (byteCells_one [32]) (by unfold maxLen; omega) (by omega) (by simp; omega) ?_
  · intro j u hu
    have hadd : (⟨W.heap.size, 0, none⟩ : Addr).add j = ⟨W.heap.size, j, none⟩ := by unfold Addr.add; split <;> simp_all
    rw [hadd, cell_of_row _ _ j #[.int .u8 32] 5 (0, 0) (by show (W.heap.push _)[W.heap.size]? = _; simp)]
    rw [← hu]
    simp
  · intro v' w' h1 h2 _
    have e : byteCells l ++ [.int .u8 32] = byteCells (l ++ [32]) := by rw [← byteCells_append]; rfl
    rw [e] at h1
    have hall : W.grownBy w' v.ownBlock := (World.grownBy_alloc _ _ _).trans h2
    refine h v' w' ?_ ((Below.refl base W).grown hall hbase (fun k hk => ((World.ownsRow.lt hown) k hk).1)) (fun g hg hne => hall.block g hg (fun e => hne e.symm)) hall.size
    unfold OwnB
    rw [List.length_append]
    exact h1
/-- An append of a string. -/
theorem wpList_append_text {ops : Array Oper} {rest : List Oper} {o : Oper} {a : Act} {W : World} {Q : Exit → Act → World → Prop} (hgd : o.guard = none) (s x : Operand)
    (ho : o.op = .call { callee := .builtin .append, args := #[s, x], argTypes := #[38, 9] }) (base : Nat) (v : Value) (l m : List UInt8)
    (hs : a.eval s = v) (hown : OwnB W base v l) (hx : a.eval x = .string (bs m)) (hl : l.length + m.length ≤ 10000000) (hbase : base ≤ W.heap.size)
    (h : ∀ v' w', OwnB w' base v' (l ++ m) → Below base W w' → wpList Tryd.prog ops Q rest (a.put o.dst v') w') :
    wpList Tryd.prog ops Q (o :: rest) a W := by
  obtain ⟨i, hi, hz, hs1, hb⟩ := info_parts info5
  refine Lib.wpList_append_own_string W hgd s x 38 9 ho base 5 i Tryd.underlying38 Tryd.underlying9 hi hz hs1 hb v l.length (byteCells l) hs hown (bs m) hx (by rw [bs_size]; unfold maxLen; omega) (by rw [bs_size]; omega) hbase ?_
  intro v' w' h1 h2 _
  refine h v' w' ?_ ((Below.refl base W).grown h2 hbase (fun k hk => ((World.ownsRow.lt hown) k hk).1))
  have e : byteCells l ++ Lib.strCells (bs m) = byteCells (l ++ m) := by
    rw [← byteCells_append]; unfold Lib.strCells; rw [bs_toList]; rfl
  rw [e, bs_size] at h1
  unfold OwnB
  rw [List.length_append]
  exact h1

def texts (L : List Tok) : List (List UInt8) := L.map (·.text)
theorem texts_at {L : List Tok} {k : Nat} {t : Tok} (h : L[k]? = some t) : (texts L)[k]? = some t.text := by simp [texts, h]
theorem texts_len (L : List Tok) : (texts L).length = L.length := by simp [texts]
/-- A block that an append did not touch. -/
theorem blank_cell {w2 w4 wr : World} {base : Nat} {v : Value} {l : List UInt8} {cs : Array Value} {ty : TypeId} (hblk : ∀ g, g < (w2.alloc (.cells cs ty)).heap.size → v.ownBlock ≠ some g → w4.heap[g]? = (w2.alloc (.cells cs ty)).heap[g]?)
    (hown : OwnB wr base v l) (hz : wr.heap.size ≤ w2.heap.size) : ∀ j, w4.cell? ⟨w2.heap.size, j, none⟩ = cs[j]? := by
  intro j
  have hne : v.ownBlock ≠ some w2.heap.size := by
    intro e
    have := (World.ownsRow.lt hown) _ e
    omega
  have h := hblk w2.heap.size (by simp) hne
  have h2 : (w2.alloc (.cells cs ty)).heap[w2.heap.size]? = some (.cells cs ty (0, 0)) := by show (w2.heap.push _)[w2.heap.size]? = _; simp
  exact cell_of_row _ _ j cs ty (0, 0) (h.trans h2)

/-- The state of lex.Join's loop. -/
def JoinRel (w : World) (T : List (List UInt8)) (k : Nat) (v : Value) (wr : World) : Prop := OwnB wr w.heap.size v (joinL (T.take k)) ∧ Below w.heap.size w wr

set_option maxHeartbeats 4000000 in
theorem lexJoin_any (X : Value) (L : List Tok) (hn4 : L.length ≤ 100000) (hJ : (joinL (texts L)).length ≤ 1000000) (w : World) (hX : Rt w X L) :
    Calls Tryd.prog 16 #[X] w fun e w' => e = .returned (.string (bs (joinL (texts L)))) ∧ Below w.heap.size w w' := by
  obtain ⟨n, hn⟩ : ∃ n, L.length = n := ⟨_, rfl⟩
  obtain ⟨A, c, rfl, hA⟩ := hX.open_
  rw [hn]
  rw [hn] at hn4
  have HJ := Lib.hid hJ
  have HX := Lib.hid hX
  have HN := Lib.hid hn
  have HA0 := Lib.hid hA
  clear hJ hX hn hA
  go_enter Tryd.func16, Tryd.ntmps16
  go_wp2
  go_loopw [3, 8] (fun v i wr => ∃ k : Nat, k ≤ n ∧ i = .int .i64 k ∧ JoinRel w (texts L) k v wr) (fun _ i _ => n - (intOf i).toNat)
  case atStart => exact ⟨0, Nat.zero_le _, rfl, OwnB.nil _ _, Below.refl _ _⟩
  case round =>
    obtain ⟨k, hk, rfl, hr⟩ := hrel
    have hwr := hr.2.size
    have HR := Lib.hid hr
    clear hr
    by_cases hlt : k < n
    · have hkL : k < L.length := by have := HN.out; omega
      obtain ⟨t, ht⟩ : ∃ t, L[k]? = some t := ⟨_, List.getElem?_eq_getElem hkL⟩
      obtain ⟨A', c', hv, hA⟩ := (HX.out.below HR.out.2).open_
      cases hv
      obtain ⟨b, off, rfl, a0, a1, a2, a3⟩ := hA k t ht
      have hb1 := joinL_take_le (texts L) (k + 1)
      have hJ := HJ.out
      by_cases hk0 : k = 0
      · subst hk0
        have hj := joinL_zero (texts_at ht)
        rw [hj] at hb1
        have HB := Lib.hid (show t.text.length ≤ 1000000 by omega)
        have HJ1 := Lib.hid hj
        have HO : Hid (OwnB wr w.heap.size u3 []) := Lib.hid (by have := HR.out.1; rwa [List.take_zero] at this)
        simp only [Nat.zero_mul, Nat.add_zero] at a0 a1 a2 a3
        clear ht hA hj hb1 hJ
        go_wp2_with (refine wpList_append_text rfl _ _ rfl w.heap.size u3 [] t.text rfl (HO.out.below ((Below.refl _ _).alloc (Nat.le_refl _) _)) rfl (by have := HB.out; simp; omega) (by simp; omega) ?_; intro v' w4 hown4 hbel4; have HO4 := Lib.hid hown4; have HB4 := Lib.hid hbel4; clear hown4 hbel4)
        go_roundw
        case rel => exact ⟨1, by omega, by go_num, by
          show OwnB _ _ _ _
          rw [HJ1.out]; exact HO4.out, HR.out.2.trans (((Below.refl _ _).alloc hwr _).trans HB4.out)⟩
        case measure => simp [intOf]; omega
      · have hj := joinL_step (texts_at ht) (by omega)
        obtain ⟨l0, hl0⟩ : ∃ l0, joinL ((texts L).take k) = l0 := ⟨_, rfl⟩
        rw [hj, hl0] at hb1
        rw [hl0] at hj
        have HB := Lib.hid (show l0.length + t.text.length ≤ 1000000 by simp at hb1; omega)
        have HJ1 := Lib.hid hj
        have HO : Hid (OwnB wr w.heap.size u3 l0) := Lib.hid (by have := HR.out.1; rwa [hl0] at this)
        have hk1 : 0 < k := by omega
        clear ht hA hj hb1 hJ hl0
        go_wp2_with (first | (refine wpList_append_text rfl _ _ rfl w.heap.size v2 (l0 ++ [32]) t.text rfl HO2.out rfl (by have := HB.out; simp; omega) (by omega) ?_; intro v' w4 hown4 hbel4; have HO4 := Lib.hid hown4; have HB4 := Lib.hid hbel4; clear hown4 hbel4) | (refine wpList_append_blank rfl _ _ rfl w.heap.size u3 l0 rfl (HO.out.below ((Below.refl _ _).alloc (Nat.le_refl _) _)) (wr.heap.size + 1) (by simp) rfl (by have := HB.out; omega) (by simp; omega) ?_; intro v2 w2 hown2 hbel2 hblk2 hsz2; have hc2 := blank_cell hblk2 HO.out (Nat.le_refl _); have hz2 : w.heap.size ≤ w2.heap.size := (by simp at hsz2; omega); have HO2 := Lib.hid hown2; have HB2 := Lib.hid hbel2; clear hown2 hbel2 hblk2 hsz2))
        go_roundw
        case rel => exact ⟨k + 1, by omega, by go_num, by
          show OwnB _ _ _ _
          rw [HJ1.out, show l0 ++ 32 :: t.text = l0 ++ [32] ++ t.text by simp]; exact HO4.out, (HR.out.2.trans (((Below.refl _ _).alloc hwr _).trans HB2.out)).trans HB4.out⟩
        case measure => simp [intOf]; omega
    · have HK : Hid (joinL ((texts L).take k) = joinL (texts L)) := Lib.hid (by rw [List.take_of_length_le (by rw [texts_len]; have := HN.out; omega)])
      go_wp2_with (refine wpList_of_bytes rfl _ rfl _ _ rfl HR.out.1.rb ?_)
      go_ret
      exact ⟨by rw [← HK.out]; rfl, HR.out.2⟩
end Go.Proofs.YtlpmeodphjpmeaaDoor.Lex
