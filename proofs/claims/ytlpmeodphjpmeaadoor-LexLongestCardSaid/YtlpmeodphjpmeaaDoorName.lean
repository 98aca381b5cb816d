import Derived.Test.YtlpmeodphjpmeaaDoorTokens
/- lex.Name. -/
namespace Go.Proofs.YtlpmeodphjpmeaaDoor.Lex
open Go.ChangeShapes Go.WideShapes Go.ChangeAt Go.RowKit

/-- Is it a name? -/
def isName : List UInt8 → Bool
  | [] => false
  | c :: r => letB c && (c :: r).all innB && decide ((c :: r).length ≤ 16) && !isWord (c :: r)
theorem all_of_len {p : UInt8 → Bool} {l : List UInt8} (h : (l.takeWhile p).length = l.length) : l.takeWhile p = l ∧ l.all p = true := by
  have e : l.takeWhile p = l := (List.takeWhile_prefix p).eq_of_length h
  refine ⟨e, ?_⟩
  rw [List.all_eq_true]
  intro x hx
  rw [← e] at hx
  exact takeWhile_all x hx
theorem not_all {p : UInt8 → Bool} {l : List UInt8} (h : (l.takeWhile p).length ≠ l.length) : l.all p = false := by
  cases ha : l.all p
  · rfl
  · exfalso
    apply h
    have : ∀ x ∈ l, p x = true := by simpa [List.all_eq_true] using ha
    have e := takeWhile_append_stop (p := p) (t := l) (w := []) this (by intro d r e; cases e)
    simp at e
    rw [e]
theorem isName_let {l : List UInt8} {c : UInt8} {r : List UInt8} (hl : l = c :: r) (h : letB c = true) : isName l = (l.all innB && decide (l.length ≤ 16) && !isWord l) := by
  subst hl
  show (letB c && (c :: r).all innB && decide ((c :: r).length ≤ 16) && !isWord (c :: r)) = _
  rw [h]; simp
theorem isName_notlet {l : List UInt8} {c : UInt8} {r : List UInt8} (hl : l = c :: r) (h : letB c = false) : isName l = false := by
  subst hl
  show (letB c && (c :: r).all innB && decide ((c :: r).length ≤ 16) && !isWord (c :: r)) = _
  rw [h]; simp

theorem name_empty (w : World) : Calls Tryd.prog 14 #[.string ⟨#[]⟩] w fun e w' => e = .returned (.bool false) ∧ Below w.heap.size w w' := by
  have h1 : ((⟨#[]⟩ : ByteArray).toList == (⟨#[]⟩ : ByteArray).toList) = true := by simp
  go_enter Tryd.func14, Tryd.ntmps14
  go_wp2
  go_ret
  exact ⟨rfl, Below.refl _ _⟩

set_option maxHeartbeats 2000000 in
theorem name_some (s : ByteArray) (h1 : 0 < s.size) (hs : s.size ≤ maxLen) (w : World) :
    Calls Tryd.prog 14 #[.string s] w fun e w' => e = .returned (.bool (isName s.data.toList)) ∧ Below w.heap.size w w' := by
  have hne1 : s.toList.isEmpty = false := by rw [ByteArray.toList_eq, head_form s h1]; rfl
  have hne2 : (s.toList == []) = false := by rw [ByteArray.toList_eq, head_form s h1]; rfl
  have hne : (s.toList == (⟨#[]⟩ : ByteArray).toList) = false := by rw [ByteArray.toList_eq, ByteArray.toList_eq, head_form s h1]; rfl
  unfold maxLen at hs
  cases hl : letN (s[0].toNat : Int)
  · have HN := Lib.hid (isName_notlet (head_form s h1) hl)
    have HL := Lib.hid hl
    clear hl
    go_enter Tryd.func14, Tryd.ntmps14
    go_wp2_with (first | (go_at_call 30; refine (letter_n _ _ HL.out _).mono ?_; rintro e w' ⟨rfl, rfl⟩))
    go_ret
    exact ⟨by rw [HN.out]; rfl, Below.refl _ _⟩
  · have HN := Lib.hid (isName_let (head_form s h1) hl)
    obtain ⟨n, hn⟩ : ∃ n, (s.data.toList.takeWhile innB).length = n := ⟨_, rfl⟩
    have hnl : n ≤ s.size := by rw [← hn, ← size_toList]; exact cnt_le innB _
    cases hw : isWord (s.data.toList.takeWhile innB)
    · by_cases h16 : 16 < n
      · have HV := Lib.hid (show tokR (wordTok s.data.toList) = .tuple #[.agg #[.int .i64 0, .int .i64 0, .string ⟨#[]⟩, .int .i32 0], .bool false] by rw [wordTok_long hw (by omega)]; rfl)
        have HF : Hid (isName s.data.toList = false) := Lib.hid (by
          rw [HN.out]
          have : ¬ s.data.toList.length ≤ 16 := by rw [size_toList]; omega
          rw [decide_eq_false this, Bool.and_false, Bool.false_and])
        have HL := Lib.hid hl
        clear hl hn hw
        go_enter Tryd.func14, Tryd.ntmps14
        go_wp2_with (first | (go_at_call 30; refine (letter_n _ _ HL.out _).mono ?_; rintro e w' ⟨rfl, rfl⟩) | (go_at_call 23; refine (languageWords_any _).mono ?_; rintro e w1 ⟨rfl, hw1, hb1⟩) | (go_at_call 31; refine (reads_at (readWord_any s (by unfold maxLen; omega) _ _ hw1) HV.out).mono ?_; rintro e w2 ⟨rfl, hb2⟩))
        go_ret
        exact ⟨by rw [HF.out]; rfl, (hb1.trans (hb2.mono hb1.size)).alloc (Nat.le_trans hb1.size hb2.size) _⟩
      · obtain ⟨T, hT⟩ : ∃ T, s.data.toList.takeWhile innB = T := ⟨_, rfl⟩
        have hts : (bs T).size = n := by rw [bs_size, ← hT, hn]
        have HV := Lib.hid (show tokR (wordTok s.data.toList) = .tuple #[.agg #[.int .i64 0, .int .i64 0, .string (bs T), .int .i32 0], .bool true] by rw [wordTok_name hw (by omega), ← hT]; rfl)
        by_cases hq : n = s.size
        · have HF : Hid (isName s.data.toList = true) := Lib.hid (by
            obtain ⟨e1, e2⟩ := all_of_len (hn.trans (hq.trans (size_toList s).symm))
            rw [HN.out, e2, ← e1, hw]
            rw [hn]; simp; omega)
          have HL := Lib.hid hl
          clear hl hn hw hT
          subst hq
          go_enter Tryd.func14, Tryd.ntmps14
          go_wp2_with (first | (go_at_call 30; refine (letter_n _ _ HL.out _).mono ?_; rintro e w' ⟨rfl, rfl⟩) | (go_at_call 23; refine (languageWords_any _).mono ?_; rintro e w1 ⟨rfl, hw1, hb1⟩) | (go_at_call 31; refine (reads_at (readWord_any s (by unfold maxLen; omega) _ _ hw1) HV.out).mono ?_; rintro e w2 ⟨rfl, hb2⟩))
          go_ret
          exact ⟨by rw [HF.out]; rfl, (hb1.trans (hb2.mono hb1.size)).alloc (Nat.le_trans hb1.size hb2.size) _⟩
        · have HF : Hid (isName s.data.toList = false) := Lib.hid (by
            rw [HN.out, not_all (by rw [hn, size_toList]; exact hq)]; rfl)
          have hq2 : ((n : Int) == (s.size : Int)) = false := by simp; omega
          have HL := Lib.hid hl
          have HQ := Lib.hid hq
          clear hl hn hw hT hq
          go_enter Tryd.func14, Tryd.ntmps14
          go_wp2_with (first | (go_at_call 30; refine (letter_n _ _ HL.out _).mono ?_; rintro e w' ⟨rfl, rfl⟩) | (go_at_call 23; refine (languageWords_any _).mono ?_; rintro e w1 ⟨rfl, hw1, hb1⟩) | (go_at_call 31; refine (reads_at (readWord_any s (by unfold maxLen; omega) _ _ hw1) HV.out).mono ?_; rintro e w2 ⟨rfl, hb2⟩))
          go_ret
          exact ⟨by rw [HF.out]; rfl, (hb1.trans (hb2.mono hb1.size)).alloc (Nat.le_trans hb1.size hb2.size) _⟩
    · obtain ⟨T, hT⟩ : ∃ T, s.data.toList.takeWhile innB = T := ⟨_, rfl⟩
      have HV := Lib.hid (show tokR (wordTok s.data.toList) = .tuple #[.agg #[.int .i64 2, .int .i64 0, .string (bs T), .int .i32 0], .bool true] by rw [wordTok_word hw, ← hT]; rfl)
      have HF : Hid (isName s.data.toList = false) := Lib.hid (by
        rw [HN.out]
        by_cases hq : n = s.size
        · obtain ⟨e1, e2⟩ := all_of_len (hn.trans (hq.trans (size_toList s).symm))
          rw [e1] at hw
          rw [hw]; simp
        · rw [not_all (by rw [hn, size_toList]; exact hq)]; rfl)
      have HL := Lib.hid hl
      clear hl hn hw hT
      go_enter Tryd.func14, Tryd.ntmps14
      go_wp2_with (first | (go_at_call 30; refine (letter_n _ _ HL.out _).mono ?_; rintro e w' ⟨rfl, rfl⟩) | (go_at_call 23; refine (languageWords_any _).mono ?_; rintro e w1 ⟨rfl, hw1, hb1⟩) | (go_at_call 31; refine (reads_at (readWord_any s (by unfold maxLen; omega) _ _ hw1) HV.out).mono ?_; rintro e w2 ⟨rfl, hb2⟩))
      go_ret
      exact ⟨by rw [HF.out]; rfl, (hb1.trans (hb2.mono hb1.size)).alloc (Nat.le_trans hb1.size hb2.size) _⟩

theorem name_any (s : ByteArray) (hs : s.size ≤ maxLen) (w : World) :
    Calls Tryd.prog 14 #[.string s] w fun e w' => e = .returned (.bool (isName s.data.toList)) ∧ Below w.heap.size w w' := by
  by_cases h : 0 < s.size
  · exact name_some s h hs w
  · have e : s = ⟨#[]⟩ := by
      rw [← bs_self s]
      have : s.data.toList = [] := List.eq_nil_of_length_eq_zero (by rw [size_toList]; omega)
      rw [this]; rfl
    subst e
    exact name_empty w
end Go.Proofs.YtlpmeodphjpmeaaDoor.Lex
