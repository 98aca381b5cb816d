import Derived.Test.YtlpmeodphjpmeaaDoorRInt
import Derived.Laws.Strings
/- lex.readSign. -/
namespace Go.Proofs.YtlpmeodphjpmeaaDoor.Lex
open Go.ChangeShapes Go.WideShapes Go.ChangeAt Go.RowKit

theorem below_succ {p : Nat → Prop} {n : Nat} (h : ∀ i, i < n → p i) (hn : p n) : ∀ i, i < n + 1 → p i := by
  intro i hi
  by_cases e : i = n
  · subst e; exact hn
  · exact h i (by omega)
theorem below_zero {p : Nat → Prop} : ∀ i, i < 0 → p i := fun i h => absurd h (Nat.not_lt_zero i)

def sgn (k : Nat) : List UInt8 := signsL.getD k []
def signsA : Array Value := (signsL.map fun g => Value.string (bs g)).toArray
/-- The variable of the signs. -/
def Sg (w : World) : Prop := ∃ ty fr, w.heap[0]? = some (.cells signsA ty fr)
theorem Sg.lt {w : World} (h : Sg w) : 0 < w.heap.size := by
  obtain ⟨ty, fr, h⟩ := h
  exact (Array.getElem?_eq_some_iff.1 h).1
theorem Sg.below {w w' : World} (h : Sg w) (hb : Below w.heap.size w w') : Sg w' := by
  have := h.lt
  obtain ⟨ty, fr, h⟩ := h
  exact ⟨ty, fr, (hb.block 0 this).trans h⟩
theorem run_index_sign (w : World) : ∀ k, k < 31 → (Instr.index 55 (.agg signsA) (.int .i64 (k : Nat))).run Tryd.prog w = .ok (.string (bs (sgn k))) w := by
  repeat (first | exact below_zero | refine below_succ ?_ (by as_aux_lemma => kernel_rfl))
theorem wpList_index_sign {ops : Array Oper} {rest : List Oper} {o : Oper} {a : Act} {w : World} {Q : Exit → Act → World → Prop} (hg : o.guard = none) (x y : Operand)
    (hop : o.op = Op.index 55 x y) (hx : a.eval x = .agg signsA) (k : Nat) (hy : a.eval y = .int .i64 (k : Nat)) (hk : k < 31) (g : List UInt8) (hgk : sgn k = g)
    (hK : wpList Tryd.prog ops Q rest (a.put o.dst (.string (bs g))) w) : wpList Tryd.prog ops Q (o :: rest) a w := by
  subst hgk
  refine wpList_plain hg fun K' hK' => ?_
  unfold Oper.wp execOp
  simp only [hop, hx, hy, Sem.run_bind, run_index_sign w k hk, Sem.run_pure, Result.andThen_ok]
  exact hK' _ _ hK

/-- Before sign k none fits. -/
def NoSign (l : List UInt8) (k : Nat) : Prop := signsL.find? (fun g => g.isPrefixOf l) = (signsL.drop k).find? (fun g => g.isPrefixOf l)
theorem sgn_drop (k : Nat) (h : k < 31) : signsL.drop k = sgn k :: signsL.drop (k + 1) := by
  rw [List.drop_eq_getElem_cons (by simpa [signsL] using h)]
  unfold sgn
  rw [List.getD_eq_getElem?_getD, List.getElem?_eq_getElem (by simpa [signsL] using h)]; rfl
theorem NoSign.hit {l : List UInt8} {k : Nat} (h : NoSign l k) (hk : k < 31) (hp : (sgn k).isPrefixOf l = true) : signTok l = some ⟨2, 0, sgn k, 0⟩ := by
  unfold signTok
  rw [h, sgn_drop k hk, List.find?_cons_of_pos (by exact hp)]; rfl
theorem NoSign.next {l : List UInt8} {k : Nat} (h : NoSign l k) (hk : k < 31) (hp : (sgn k).isPrefixOf l = false) : NoSign l (k + 1) := by
  unfold NoSign
  rw [h, sgn_drop k hk, List.find?_cons_of_neg (by rw [hp]; decide)]
theorem NoSign.last {l : List UInt8} {k : Nat} (h : NoSign l k) (hk : 31 ≤ k) : signTok l = none := by
  unfold signTok
  rw [h, List.drop_eq_nil_of_le (by simpa [signsL] using hk)]; rfl
theorem sgn_len : ∀ k, k < 31 → 1 ≤ (sgn k).length ∧ (sgn k).length ≤ 3 := by
  repeat (first | exact below_zero | refine below_succ ?_ (by decide))
theorem prefix_eq (g l : List UInt8) (h : g.length ≤ l.length) : g.isPrefixOf l = decide (l.take g.length = g) := by
  rw [Bool.eq_iff_iff, List.isPrefixOf_iff_prefix, List.prefix_iff_eq_take]
  simp [eq_comm]
theorem prefix_short (g l : List UInt8) (h : l.length < g.length) : g.isPrefixOf l = false := by
  cases hp : g.isPrefixOf l
  · rfl
  · have := (List.isPrefixOf_iff_prefix.1 hp).length_le
    omega
/-- The test of the text, as the walk spells it. -/
theorem front_eq (s : ByteArray) (g : List UInt8) (m : Nat) (hm : g.length = m) (h : m ≤ s.size) (b : Bool) (hb : g.isPrefixOf s.data.toList = b) : ((s.extract 0 m).toList == (bs g).toList) = b := by
  subst hm; subst hb
  rw [prefix_eq _ _ (by rw [size_toList]; exact h), ByteArray.toList_eq, ByteArray.toList_eq, extract_toList, bs_toList]
  simp
  rw [Bool.eq_iff_iff]; simp

set_option maxHeartbeats 1000000 in
theorem readSign_any (s : ByteArray) (hs : s.size ≤ maxLen) (w : World) (hS : Sg w) :
    Calls Tryd.prog 38 #[.string s] w fun e w' => e = .returned (tokR (signTok s.data.toList)) ∧ Below w.heap.size w w' := by
  unfold maxLen at hs
  have h0 := hS.lt
  obtain ⟨ty, fr, hS⟩ := hS
  have hS1 := Lib.hid hS
  clear hS
  go_enter Tryd.func38, Tryd.ntmps38
  go_wp2_with (refine wpList_load_row rfl 55 _ rfl 0 rfl ty signsA fr _ ((((Below.refl _ w).alloc (Nat.le_refl _) _).block 0 h0).trans hS1.out) Tryd.underlying55 rfl (by kernel_rfl) ?_)
  go_loop [7] (fun i => ∃ k : Nat, k ≤ 31 ∧ i = .int .i64 k ∧ NoSign s.data.toList k) (fun i => 31 - (intOf i).toNat)
  case atStart => exact ⟨0, Nat.zero_le _, rfl, by unfold NoSign; simp⟩
  case round =>
    obtain ⟨k, hk, rfl, hno⟩ := hrel
    by_cases hlt : k < 31
    · obtain ⟨g, hg⟩ : ∃ g, sgn k = g := ⟨_, rfl⟩
      have hl := sgn_len k hlt
      obtain ⟨m, hm⟩ : ∃ m, g.length = m := ⟨_, rfl⟩
      rw [hg, hm] at hl
      have hsz : (bs g).size = m := (bs_size g).trans hm
      have HN := Lib.hid hno
      clear hno
      by_cases hle : m ≤ s.size
      · cases hp : g.isPrefixOf s.data.toList
        · have hq := front_eq s g m hm hle _ hp
          have HG := Lib.hid hg
          have HM := Lib.hid hm
          have HP := Lib.hid hp
          clear hg hm hp
          go_wp2_with (refine wpList_index_sign rfl _ _ rfl rfl k rfl hlt g HG.out ?_)
          go_round
          case rel => exact ⟨k + 1, by omega, by go_num, HN.out.next hlt (by rw [HG.out, HP.out])⟩
          case measure => simp [intOf]; omega
        · have hq := front_eq s g m hm hle _ hp
          have HG := Lib.hid hg
          have HM := Lib.hid hm
          have HP := Lib.hid hp
          clear hg hm hp
          go_wp2_with (first | (refine wpList_index_sign rfl _ _ rfl rfl k rfl hlt g HG.out ?_) | (go_at_call 43; refine (newToken_any 2 (bs g) (by rw [hsz]; unfold maxLen; omega) _).mono ?_; rintro e w1 ⟨rfl, hb⟩; obtain ⟨hc, hf⟩ := bcell hb; have hz : w.heap.size < w1.heap.size := (by have := hb.size; simp at this; omega)))
          exact bodyPost_ret (v := .tuple #[.agg #[.int .i64 2, .int .i64 0, .string (bs g), .int .i32 0], .bool true]) (by simp [results, Tryd.results38, go_sem, hz, hc]) rfl ⟨by rw [HN.out.hit hlt (by rw [HG.out, HP.out]), HG.out]; rfl, by
            repeat (first | exact (((Below.refl _ _).alloc (Nat.le_refl _) _).trans (hb.mono (by simp))) | refine Below.setCell ?_ (by simp) _ | refine Below.alloc ?_ (by simp; omega) _)⟩
      · have hp := prefix_short g s.data.toList (by rw [size_toList, hm]; omega)
        have HG := Lib.hid hg
        have HM := Lib.hid hm
        have HP := Lib.hid hp
        clear hg hm hp
        go_wp2_with (refine wpList_index_sign rfl _ _ rfl rfl k rfl hlt g HG.out ?_)
        go_round
        case rel => exact ⟨k + 1, by omega, by go_num, HN.out.next hlt (by rw [HG.out, HP.out])⟩
        case measure => simp [intOf]; omega
    · have HN := Lib.hid hno
      clear hno
      go_wp2
      exact bodyPost_ret (v := tokR none) (by simp [tokR, results, Tryd.results38, go_sem]) rfl ⟨by rw [HN.out.last (by omega)], by
        repeat (first | exact (Below.refl _ _) | refine Below.setCell ?_ (by simp) _ | refine Below.alloc ?_ (by simp) _)⟩
end Go.Proofs.YtlpmeodphjpmeaaDoor.Lex
