import Derived.Test.YtbkhnilbgocpnaaGreatDoorM23
import Derived.Test.YtbkhnilbgocpnaaGreatDoorM19
set_option linter.unusedVariables false
set_option linter.unusedSimpArgs false
/- Tokens of a text that is good, and of one that is not. -/
namespace Go.Proofs.YtbkhnilbgocpnaaGreatDoor.SynC
open Go.Proofs.YtbkhnilbgocpnaaGreatDoor.LexC
open Go Go.ChangeShapes Go.WideShapes Go.ChangeAt Go.RowKit Go.Deep

theorem tokens_good (s : ByteArray) (h4 : s.size ≤ 4000) (L : List Tok) (h : sc s.data.toList 0 = (L, none)) (w : World) (hS : Sg w) :
    Calls Tryz.prog 36 #[.string s] w fun e w' => (∃ A c, e = .returned (.tuple #[.slice A L.length c, .int .i64 0, .int .i64 0]) ∧ Rt w' (.slice A L.length c) L) ∧ Below w.heap.size w w' :=
  (tokens_short s h4 w hS).mono fun e w' ⟨hp, hb⟩ => ⟨(by
    rcases hp with ⟨v, hn, he, hr⟩ | ⟨i, hi, _⟩
    · rw [h] at hr
      have hr := OwnT.rt hr
      obtain ⟨A, c, hv, _⟩ := hr.open_
      subst hv
      exact ⟨A, c, he, hr⟩
    · rw [h] at hi
      cases hi), hb⟩
theorem tokens_bad (s : ByteArray) (h4 : s.size ≤ 4000) (i : Nat) (h : (sc s.data.toList 0).2 = some i) (w : World) (hS : Sg w) :
    Calls Tryz.prog 36 #[.string s] w fun e w' => e = .returned (.tuple #[.slice none 0 0, .int .i64 i, .int .i64 2]) ∧ Below w.heap.size w w' :=
  (tokens_short s h4 w hS).mono fun e w' ⟨hp, hb⟩ => ⟨(by
    rcases hp with ⟨v, hn, he, hr⟩ | ⟨j, hj, he⟩
    · rw [h] at hn
      cases hn
    · rw [h] at hj
      cases hj
      exact he), hb⟩
end Go.Proofs.YtbkhnilbgocpnaaGreatDoor.SynC
/- The walk of the law of where an error is. -/
namespace Go.Proofs.YtbkhnilbgocpnaaGreatDoor.SynC
open Go.Proofs.YtbkhnilbgocpnaaGreatDoor.LexC
open Go Go.ChangeShapes Go.WideShapes Go.ChangeAt Go.RowKit Go.Deep

theorem progM_two {s : List UInt8} {q : Pg} {i : Int} (h : (q, i, 2) = progM s) : (q, i, 2) = parseM (⟨[], []⟩ : Pg) progR s := by
  unfold progM at h
  simp only at h
  split at h
  · simp at h
  · exact h
theorem progM_cases {s : List UInt8} {q : Pg} {i er : Int} {n : Nat} (h : (q, i, er) = progM s) (hw : ∀ p i e, (p, i, e) = parseM (⟨[], []⟩ : Pg) progR s → e = 0 ∨ (e = 2 ∧ i = n)) : er = 0 ∨ er = 5 ∨ (er = 2 ∧ i = n) := by
  unfold progM at h
  simp only at h
  split at h
  · simp only [Prod.mk.injEq] at h; exact .inr (.inl h.2.2)
  · rcases hw q i er h with h | h
    · exact .inl h
    · exact .inr (.inr h)
def foundB (n z : Nat) (L : List Tok) : Bool := decide (n = z) || L.any fun t => decide (t.pos = n)
theorem found_take {n z : Nat} {L : List Tok} {k : Nat} {t : Tok} (h : L[k]? = some t) : foundB n z (L.take (k + 1)) = (foundB n z (L.take k) || decide (t.pos = n)) := by
  unfold foundB
  obtain ⟨hl, he⟩ := List.getElem?_eq_some_iff.1 h
  rw [List.take_succ_eq_append_getElem hl, List.any_append, he]
  simp [Bool.or_assoc]

set_option maxRecDepth 100000 in
set_option maxHeartbeats 2000000 in
theorem where_walk (s : ByteArray) (hs : s.size ≤ maxLen) (w : World) (hG : Gl w) : Calls Tryz.prog 11 #[.string s] w fun e w' => e = .returned (.bool true) ∧ Below w.heap.size w w' := by
  have HG := Lib.hid hG
  clear hG
  have hs2 := hs
  unfold maxLen at hs
  by_cases h6 : 6000 < s.size
  · go_enter Tryz.func11, Tryz.ntmps11
    go_wp2_with fail
    refine (awake_any _ HG.out).mono ?_
    rintro e w1 ⟨rfl, hb1⟩
    go_wp2
    go_ret
    exact ⟨rfl, hb1⟩
  have hd : decide ((6000 : Int) < s.size) = false := by simp; omega
  -- where tokens fail
  have fails : ∀ (at_ er : Int), (er != 0) = true → (∀ w, Gl w → Calls Tryz.prog 36 #[.string s] w fun e w' => e = .returned (.tuple #[.slice none 0 0, .int .i64 at_, .int .i64 er]) ∧ Below w.heap.size w w') →
      Calls Tryz.prog 11 #[.string s] w fun e w' => e = .returned (.bool true) ∧ Below w.heap.size w w' := by
    intro at_ er her hT
    have HT := Lib.hid hT
    clear hT
    go_enter Tryz.func11, Tryz.ntmps11
    go_wp2_with fail
    refine (HT.out _ HG.out).mono ?_
    rintro e w1 ⟨rfl, hb1⟩
    have HB1 := Lib.hid hb1
    clear hb1
    go_wp2_with fail
    refine (parse_15 s hs2 _ (HG.out.bel HB1.out)).mono ?_
    rintro e w2 ⟨hb2, A, m, c, B, mb, cb, q, i, er2, rfl, -, -⟩
    have HB2 := Lib.hid (seq HB1.out hb2)
    clear hb2
    go_wp2_with fail
    refine (awake_any _ ((HG.out.bel HB2.out).alloc _)).mono ?_
    rintro e w3 ⟨rfl, hb3⟩
    have HB3 := Lib.hid (seq (seq HB2.out (bel_al _ _)) hb3)
    clear hb3
    go_wp2
    go_ret
    exact ⟨rfl, HB3.out⟩
  by_cases h4 : 4000 < s.size
  · exact fails 0 5 rfl fun w hw => tokens_long s hs2 h4 w
  have h4' : s.size ≤ 4000 := by omega
  obtain ⟨L, o, ho⟩ : ∃ L o, sc s.data.toList 0 = (L, o) := ⟨_, _, rfl⟩
  cases o with
  | some i => exact fails i 2 rfl fun w hw => tokens_bad s h4' i (by rw [ho]) w hw.glob.sg
  | none =>
    have HO := Lib.hid ho
    clear ho h4 fails
    go_enter Tryz.func11, Tryz.ntmps11
    go_wp2_with fail
    refine (tokens_good s h4' L HO.out _ HG.out.glob.sg).mono ?_
    rintro e w1 ⟨⟨A, c, rfl, hr1⟩, hb1⟩
    have HB1 := Lib.hid hb1
    have HR1 := Lib.hid hr1
    clear hb1 hr1
    go_wp2_with fail
    refine (parse_15 s hs2 _ (HG.out.bel HB1.out)).mono ?_
    rintro e w2 ⟨hb2, pA, pm, pc, pB, pmb, pcb, q, i, er, rfl, -, hx⟩
    have HB2 := Lib.hid (seq HB1.out hb2)
    have HR2 := Lib.hid (HR1.out.below (seq hb2 (bel_al w2 (.cells #[.slice pA pm pc, .slice pB pmb pcb] 26))))
    clear hb2
    by_cases he : er = 2
    · subst he
      obtain ⟨n, rfl, hn, hat, hcut⟩ := whr_math (by rw [size_toList]; exact h4') HO.out (progM_two hx)
      rw [size_toList] at hn hat
      have HCUT := Lib.hid hcut
      have HAT := Lib.hid hat
      clear hx hcut hat
      have hl4 : L.length ≤ 4000 := by have := sc_count s.data.toList 0; rw [HO.out, size_toList] at this; simp only at this; omega
      go_wp2_with fail
      go_loopw [9, 10] (fun f i wr => ∃ (k : Nat), k ≤ L.length ∧ i = .int .i64 k ∧ f = .bool (foundB n s.size (L.take k)) ∧ wr = w2.alloc (.cells #[.slice pA pm pc, .slice pB pmb pcb] 26)) (fun _ i _ => L.length - (intOf i).toNat)
      case atStart => exact ⟨0, Nat.zero_le _, rfl, by congr 1; unfold foundB; rw [List.take_zero, Bool.eq_iff_iff]; simp; omega, rfl⟩
      case round =>
        obtain ⟨k, hk, rfl, rfl, rfl⟩ := hrel
        by_cases hlt : k < L.length
        · obtain ⟨t, ht⟩ : ∃ t, L[k]? = some t := ⟨_, List.getElem?_eq_getElem hlt⟩
          obtain ⟨A', c', hv, hA⟩ := HR2.out.open_
          have hA0 := hA k t ht
          obtain ⟨b, off, hb0, a0, a1, a2, a3⟩ := hA0
          cases hv
          subst hb0
          have hin : (0 : Int) ≤ k ∧ (k : Int) < L.length := ⟨by omega, by omega⟩
          have hf := found_take (n := n) (z := s.size) ht
          obtain ⟨f0, hf0⟩ : ∃ f0, foundB n s.size (L.take k) = f0 := ⟨_, rfl⟩
          obtain ⟨d0, hd0⟩ : ∃ d0, decide (t.pos = n) = d0 := ⟨_, rfl⟩
          rw [hf0, hd0] at hf
          rw [hf0]
          have HF := Lib.hid hf
          clear hf hf0 ht hA
          cases f0
          · cases d0
            · have hd1 : (t.pos == (n : Int)) = false := by simpa using hd0
              clear hd0
              go_wp2
              go_roundw
              case rel => exact ⟨k + 1, by omega, by go_num, by first | (rw [HF.out]; rfl) | rfl, by first | rfl | trivial⟩
              case measure => simp [intOf]; omega
            · have hd1 : (t.pos == (n : Int)) = true := by simpa using hd0
              clear hd0
              go_wp2
              go_roundw
              case rel => exact ⟨k + 1, by omega, by go_num, by first | (rw [HF.out]; rfl) | rfl, by first | rfl | trivial⟩
              case measure => simp [intOf]; omega
          · clear hd0
            go_wp2
            go_roundw
            case rel => exact ⟨k + 1, by omega, by go_num, by first | (rw [HF.out]; rfl) | rfl, by first | rfl | trivial⟩
            case measure => simp [intOf]; omega
        · have hfb : foundB n s.size (L.take k) = true := by
            rw [List.take_of_length_le (by omega)]
            unfold foundB
            rcases HAT.out with h | ⟨k, t, ht, hp⟩
            · simp [h]
            · rw [Bool.or_eq_true, List.any_eq_true]
              exact .inr ⟨t, List.mem_of_getElem? ht, by simp [hp]⟩
          rw [hfb]
          clear hfb
          have hc1 : decide ((s.size : Int) < (n : Int)) = false := by simp; omega
          have hx1 : (s.extract 0 n).data.toList = s.data.toList.take n := by rw [extract_toList]; simp
          have hxs : (s.extract 0 n).size ≤ maxLen := by rw [← size_toList, hx1, List.length_take, size_toList]; unfold maxLen; omega
          have HX1 := Lib.hid hx1
          clear hx1
          go_wp2_with fail
          refine (parse_15 (s.extract 0 n) hxs _ ((HG.out.bel HB2.out).alloc _)).mono ?_
          rintro e w3 ⟨hb3, rA, rm, rc, rB, rmb, rcb, q3, i3, er3, rfl, -, hx3⟩
          rw [HX1.out] at hx3
          have hres := progM_cases hx3 HCUT.out
          have HB3 := Lib.hid (seq (seq HB2.out (bel_al _ _)) hb3)
          clear hb3 hx3
          rcases hres with rfl | rfl | ⟨rfl, rfl⟩
          · go_wp2_with fail
            refine (awake_any _ ((HG.out.bel HB3.out).alloc _)).mono ?_
            rintro e w4 ⟨rfl, hb4⟩
            have HB4 := Lib.hid (seq (seq HB3.out (bel_al _ _)) hb4)
            clear hb4
            go_wp2
            go_ret
            exact ⟨rfl, HB4.out⟩
          · go_wp2_with fail
            refine (awake_any _ ((HG.out.bel HB3.out).alloc _)).mono ?_
            rintro e w4 ⟨rfl, hb4⟩
            have HB4 := Lib.hid (seq (seq HB3.out (bel_al _ _)) hb4)
            clear hb4
            go_wp2
            go_ret
            exact ⟨rfl, HB4.out⟩
          · have hnn : ((n : Int) == (n : Int)) = true := by simp
            go_wp2_with fail
            refine (awake_any _ ((HG.out.bel HB3.out).alloc _)).mono ?_
            rintro e w4 ⟨rfl, hb4⟩
            have HB4 := Lib.hid (seq (seq HB3.out (bel_al _ _)) hb4)
            clear hb4
            go_wp2
            go_ret
            exact ⟨rfl, HB4.out⟩
    · have her : (er != 2) = true := by simpa using he
      clear hx he
      go_wp2_with fail
      refine (awake_any _ ((HG.out.bel HB2.out).alloc _)).mono ?_
      rintro e w3 ⟨rfl, hb3⟩
      have HB3 := Lib.hid (seq (seq HB2.out (bel_al _ _)) hb3)
      clear hb3
      go_wp2
      go_ret
      exact ⟨rfl, HB3.out⟩
end Go.Proofs.YtbkhnilbgocpnaaGreatDoor.SynC
