import Derived.Test.YtlpmeodphjpmeaaDoorToks
import Derived.LoopTactic
/- lex.Tokens. -/
namespace Go.Proofs.YtlpmeodphjpmeaaDoor.Lex
open Go.ChangeShapes Go.WideShapes Go.ChangeAt Go.RowKit

theorem Words.belowN {w w' : World} {b N : Nat} (h : Words w b) (hb : Below N w w') (hN : b < N) : Words w' b := by
  obtain ⟨D, ⟨es, clock, h1, h2⟩, h3⟩ := h
  exact ⟨D, ⟨es, clock, (hb.block b hN).trans h1, h2⟩, h3⟩
theorem Sg.belowN {w w' : World} {N : Nat} (h : Sg w) (hb : Below N w w') (hN : 0 < N) : Sg w' := by
  obtain ⟨ty, fr, h⟩ := h
  exact ⟨ty, fr, (hb.block 0 hN).trans h⟩
theorem blank_n (n : Int) (b : Bool) (h : blkN n = b) (w : World) : Calls Tryd.prog 24 #[.int .u8 n] w fun e w' => e = .returned (.bool b) ∧ w = w' := by subst h; exact lex_blank n w
theorem count_comment_n (s : ByteArray) (hs : s.size ≤ maxLen) (n : Nat) (h : cnt noE s.data.toList = n) (w : World) :
    Calls Tryd.prog 25 #[.string s, .func (.func 26) #[] #[]] w fun e w' => e = .returned (.int .i64 (n : Nat)) ∧ w = w' := by
  subst h; exact count_comment s hs w

/-- What Tokens leaves of a text that is not too long. -/
def TokPost (l : List UInt8) (e : Ending) (w' : World) : Prop :=
  (∃ v, (sc l 0).2 = none ∧ e = .returned (.tuple #[v, .int .i64 0, .int .i64 0]) ∧ Rt w' v (sc l 0).1) ∨
  ∃ i : Nat, (sc l 0).2 = some i ∧ e = .returned (.tuple #[.slice none 0 0, .int .i64 i, .int .i64 2])

theorem tokens_long (s : ByteArray) (hs : s.size ≤ maxLen) (h : 4000 < s.size) (w : World) :
    Calls Tryd.prog 11 #[.string s] w fun e w' => e = .returned (.tuple #[.slice none 0 0, .int .i64 0, .int .i64 5]) ∧ Below w.heap.size w w' := by
  unfold maxLen at hs
  go_enter Tryd.func11, Tryd.ntmps11
  go_wp2
  go_ret3
  exact ⟨rfl, Below.refl _ _⟩

/-- The state of the loop. -/
def LoopRel (s : ByteArray) (w1 : World) (b : Nat) (k nx : Nat) (L : List Tok) (v : Value) (wr : World) : Prop :=
  OwnT wr (b + 1) v L ∧ Below (b + 1) w1 wr ∧ ScRel s.data.toList L (max k nx) ∧ L.length ≤ max k nx

theorem suffix_list (s : ByteArray) (k : Nat) : (s.extract k s.size).data.toList = s.data.toList.drop k := by
  rw [extract_toList, List.take_of_length_le (by rw [List.length_drop, size_toList]; omega)]
theorem suffix_size (s : ByteArray) (k : Nat) : (s.extract k s.size).size = s.size - k := by
  rw [← size_toList, suffix_list, List.length_drop, size_toList]

/-- The block of the token that was read last. -/
theorem tok_cell {w2 w4 wr : World} {base : Nat} {v : Value} {L : List Tok} {cs : Array Value} (hblk : ∀ g, g < (w2.alloc (.cells cs 30)).heap.size → v.ownBlock ≠ some g → w4.heap[g]? = (w2.alloc (.cells cs 30)).heap[g]?)
    (hown : OwnT wr base v L) (hz : wr.heap.size ≤ w2.heap.size) : ∀ j, w4.cell? ⟨w2.heap.size, j, none⟩ = cs[j]? := by
  intro j
  have hne : v.ownBlock ≠ some w2.heap.size := by
    intro e
    have := (World.ownsRow.lt hown) _ e
    omega
  have h := hblk w2.heap.size (by simp) hne
  have h2 : (w2.alloc (.cells cs 30)).heap[w2.heap.size]? = some (.cells cs 30 (0, 0)) := by show (w2.heap.push _)[w2.heap.size]? = _; simp
  exact cell_of_row _ _ j cs 30 (0, 0) (h.trans h2)

set_option maxHeartbeats 4000000 in
theorem tokens_short (s : ByteArray) (h4 : s.size ≤ 4000) (w : World) (hS : Sg w) :
    Calls Tryd.prog 11 #[.string s] w fun e w' => TokPost s.data.toList e w' ∧ Below w.heap.size w w' := by
  have hd13 : decide ((4000 : Int) < s.size) = false := by simp; omega
  go_enter Tryd.func11, Tryd.ntmps11
  go_wp2_with (go_at_call 23; refine (languageWords_any _).mono ?_; rintro e w1 ⟨rfl, hw1, hb1⟩)
  obtain ⟨b, hB⟩ : ∃ b, w.heap.size = b := ⟨_, rfl⟩
  have hS0 := hS.below hb1
  have hS1 := Lib.hid hS0
  rw [hB] at hw1
  have hlt := hw1.lt
  have HW1 := Lib.hid hw1
  have HB1 := Lib.hid (show Below b w w1 by rw [← hB]; exact hb1)
  clear hw1 hb1 hS hS0 hd13
  rw [hB]
  have HB := Lib.hid hB
  clear hB
  go_loopw [5, 7, 17] (fun v nx i wr => ∃ (k n : Nat) (L : List Tok), k ≤ s.size ∧ n ≤ s.size ∧ i = .int .i64 k ∧ nx = .int .i64 n ∧ LoopRel s w1 b k n L v wr) (fun _ _ i _ => s.size - (intOf i).toNat)
  case atStart => exact ⟨0, 0, [], Nat.zero_le _, Nat.zero_le _, rfl, rfl, OwnT.nil _ _, Below.refl _ _, ScRel.zero _, by simp⟩
  case round =>
    obtain ⟨k, n, L, hk, hn, rfl, rfl, hr⟩ := hrel
    have HR := Lib.hid hr
    have hwr := hr.2.1.size
    have hLk := hr.2.2.2
    clear hr
    by_cases hks : k < s.size
    · by_cases hkn : k < n
      · clear hLk
        go_wp2
        go_roundw
        case rel => exact ⟨k + 1, n, L, by omega, hn, by go_num, rfl, HR.out.1, HR.out.2.1, by
          rw [show max (k + 1) n = max k n by omega]; exact HR.out.2.2.1, by
          rw [show max (k + 1) n = max k n by omega]; exact HR.out.2.2.2⟩
        case measure => simp [intOf]; omega
      · have hsc : Hid (ScRel s.data.toList L k) := Lib.hid (by have := HR.out.2.2.1; rwa [show max k n = k by omega] at this)
        have hLk2 : L.length ≤ k := by omega
        clear hLk
        cases hbl : blkN (s[k].toNat : Int)
        · have HBL := Lib.hid hbl
          clear hbl
          by_cases h35 : (s[k].toNat : Int) = 35
          · obtain ⟨c, hc⟩ : ∃ c, cnt noE (s.data.toList.drop k) = c := ⟨_, rfl⟩
            have hcl : c ≤ s.size - k := by rw [← hc]; have := cnt_le noE (s.data.toList.drop k); rw [List.length_drop, size_toList] at this; exact this
            have hc1 : 1 ≤ c := by
              rw [← hc, drop_cons s k hks, cnt_cons_pos (by unfold noE noEN; rw [h35]; decide)]; omega
            have HC := Lib.hid (show cnt noE (s.extract k s.size).data.toList = c by rw [suffix_list]; exact hc)
            have hsz := suffix_size s k
            have HC2 := Lib.hid hc
            have H35 := Lib.hid h35
            have hne : ((s[k].toNat : Int) == 35) = true := by rw [h35]; rfl
            clear hc h35
            go_wp2_with (first | (go_at_call 24; refine (blank_n _ _ HBL.out _).mono ?_; rintro e w' ⟨rfl, rfl⟩) | (go_at_call 25; refine (count_comment_n (s.extract k s.size) (by rw [hsz]; unfold maxLen; omega) c HC.out _).mono ?_; rintro e w' ⟨rfl, rfl⟩))
            go_roundw
            case rel => exact ⟨k + 1, k + c, L, by omega, by omega, by go_num, by go_num, HR.out.1, HR.out.2.1, by
              rw [show max (k + 1) (k + c) = k + c by omega]; have := hsc.out.hash hks H35.out; rwa [HC2.out] at this, by omega⟩
            case measure => simp [intOf]; omega
          · have H35 := Lib.hid h35
            have hne : ((s[k].toNat : Int) == 35) = false := by simpa using h35
            clear h35
            have hsz := suffix_size s k
            have hxs : (s.extract k s.size).size ≤ maxLen := by rw [hsz]; unfold maxLen; omega
            have hx0 : 0 < (s.extract k s.size).size := by rw [hsz]; omega
            have HWr := Lib.hid (HW1.out.belowN HR.out.2.1 (by omega))
            have HSr := Lib.hid (hS1.out.belowN HR.out.2.1 (by omega))
            cases ht : tokenAt (s.data.toList.drop k) with
            | none =>
              have HT := Lib.hid ht
              have HTV := Lib.hid (show tokR (tokenAt (s.extract k s.size).data.toList) = .tuple #[.agg #[.int .i64 0, .int .i64 0, .string ⟨#[]⟩, .int .i32 0], .bool false] by rw [suffix_list, ht]; rfl)
              clear ht
              go_wp2_with (first | (go_at_call 24; refine (blank_n _ _ HBL.out _).mono ?_; rintro e w' ⟨rfl, rfl⟩) | (go_at_call 27; refine (reads_at (read_any (s.extract k s.size) hx0 hxs b _ HWr.out HSr.out) HTV.out).mono ?_; rintro e w2 ⟨rfl, hb2⟩))
              go_ret3
              exact ⟨.inr ⟨k, hsc.out.bad hks HBL.out H35.out HT.out, rfl⟩, by
                rw [HB.out]
                have h1 := HB1.out.trans (HR.out.2.1.mono (Nat.le_succ b))
                exact (h1.trans (hb2.mono (by omega))).alloc (by have := hb2.size; omega) _⟩
            | some t =>
              have hm1 := tokenAt_len ht
              have hm2 := tokenAt_le ht
              rw [List.length_drop, size_toList] at hm2
              obtain ⟨m, hm⟩ : ∃ m, t.text.length = m := ⟨_, rfl⟩
              rw [hm] at hm1 hm2
              have hts : (bs t.text).size = m := (bs_size _).trans hm
              have HT := Lib.hid ht
              have HM := Lib.hid hm
              have HTV := Lib.hid (show tokR (tokenAt (s.extract k s.size).data.toList) = .tuple #[.agg #[.int .i64 t.kind, .int .i64 t.pos, .string (bs t.text), .int .i32 t.num], .bool true] by rw [suffix_list, ht]; rfl)
              clear ht hm
              go_wp2_with (first | (go_at_call 24; refine (blank_n _ _ HBL.out _).mono ?_; rintro e w' ⟨rfl, rfl⟩) | (go_at_call 27; refine (reads_at (read_any (s.extract k s.size) hx0 hxs b _ HWr.out HSr.out) HTV.out).mono ?_; rintro e w2 ⟨rfl, hb2⟩; have hz2 := hb2.size) | (refine wpList_append_tok rfl _ _ rfl (b + 1) u5 L { t with pos := (k : Int) } rfl ((HR.out.1.below hb2).below ((Below.refl _ _).alloc (Nat.le_refl _) _)) (w2.heap.size + 1) (by simp) rfl (by omega) (by simp; omega) ?_; intro v' w4 hown4 hbel4 hblk hsz4; have hc4 := tok_cell hblk HR.out.1 hz2; have HO4 := Lib.hid hown4; have HB4 := Lib.hid hbel4; clear hown4 hbel4 hblk hsz4))
              go_roundw
              case rel => exact ⟨k + 1, k + m, L ++ [{ t with pos := (k : Int) }], by omega, by omega, by go_num, by go_num, HO4.out, (HR.out.2.1.trans (hb2.mono (by omega))).trans (((Below.refl _ _).alloc (by omega) _).trans HB4.out), by
                rw [show max (k + 1) (k + m) = k + m by omega]; have := hsc.out.tok hks HBL.out H35.out HT.out; rwa [HM.out] at this, by simp; omega⟩
              case measure => simp [intOf]; omega
        · have HBL := Lib.hid hbl
          clear hbl
          go_wp2_with (go_at_call 24; refine (blank_n _ _ HBL.out _).mono ?_; rintro e w' ⟨rfl, rfl⟩)
          go_roundw
          case rel => exact ⟨k + 1, n, L, by omega, hn, by go_num, rfl, HR.out.1, HR.out.2.1, by
            rw [show max (k + 1) n = k + 1 by omega]; exact hsc.out.blank hks HBL.out, by omega⟩
          case measure => simp [intOf]; omega
    · go_wp2
      go_ret3
      exact ⟨.inl ⟨u5, by
        have := HR.out.2.2.1.last (by omega)
        rw [this], rfl, by
        have := HR.out.2.2.1.last (by omega)
        rw [this]; exact HR.out.1.rt⟩, by rw [HB.out]; exact HB1.out.trans (HR.out.2.1.mono (Nat.le_succ b))⟩
end Go.Proofs.YtlpmeodphjpmeaaDoor.Lex
