import Derived.Test.YtlpmeodphjpmeaaDoorMap
import Derived.Test.YtlpmeodphjpmeaaDoorRInt
/- lex.languageWords. -/
namespace Go.Proofs.YtlpmeodphjpmeaaDoor.Lex
open Go.ChangeShapes Go.WideShapes Go.ChangeAt Go.RowKit

theorem wpList_insert_next {ops : Array Oper} {rest : List Oper} {o : Oper} {a : Act} {w : World} {Q : Exit → Act → World → Prop} (hg : o.guard = none) (m : Operand) (k : ByteArray)
    (hop : o.op = Op.insert 41 m (.const (.string k)) (.const (.bool true))) (B n : Nat) (L : List (List UInt8)) (w0 : World) (hm : a.eval m = .map (some B)) (hown : OwnWords w B n L ∧ Below B w0 w) (hn : n < 1000) (hk : k.size < 1000)
    (hK : ∀ w', OwnWords w' B (n + 1) (k.data.toList :: L) ∧ Below B w0 w' → wpList Tryd.prog ops Q rest (a.put o.dst undef) w') :
    wpList Tryd.prog ops Q (o :: rest) a w :=
  wpList_insert_word hg m k hop B n L hm hown.1 (by unfold maxLen; omega) (by unfold maxLen; omega) fun w' h1 h2 => hK w' ⟨h1, hown.2.grown h2 (Nat.le_of_lt hown.1.lt) (fun j hj => by cases hj; exact Nat.le_refl _)⟩

/-- Block b is the map of the language's words. -/
def Words (w : World) (b : Nat) : Prop := OwnWords w b 25 wordsL.reverse
theorem Words.below {w w' : World} {b : Nat} (h : Words w b) (hb : Below w.heap.size w w') : Words w' b := OwnWords.below h hb
theorem Words.lt {w : World} {b : Nat} (h : Words w b) : b < w.heap.size := OwnWords.lt h

set_option maxHeartbeats 1000000 in
theorem languageWords_any (w : World) : Calls Tryd.prog 23 #[] w fun e w' => e = .returned (.map (some w.heap.size)) ∧ Words w' w.heap.size ∧ Below w.heap.size w w' := by
  have hmm := @run_makeMap Tryd.prog
  have hown : OwnWords (w.alloc (.map #[] 0)) w.heap.size 0 [] ∧ Below w.heap.size w (w.alloc (.map #[] 0)) := ⟨OwnWords.made w, (Below.refl _ _).alloc (Nat.le_refl _) _⟩
  go_enter Tryd.func23, Tryd.ntmps23
  go_wp2_with (refine wpList_insert_next rfl _ _ rfl w.heap.size _ _ w rfl hown (by omega) (by decide) ?_; clear hown; intro w1 hown)
  go_ret
  exact ⟨rfl, hown.1, hown.2⟩

theorem isWord_rev (t : List UInt8) : wordsL.reverse.contains t = isWord t := by
  unfold isWord; simp
theorem wpList_lookup_word' {ops : Array Oper} {rest : List Oper} {o : Oper} {a : Act} {w : World} {Q : Exit → Act → World → Prop} (hg : o.guard = none) (m x : Operand)
    (hop : o.op = Op.lookup 41 m x false) (b : Nat) (hm : a.eval m = .map (some b)) (hown : Words w b) (s : ByteArray) (hx : a.eval x = .string s) (hs : s.size ≤ maxLen) (v : Bool) (hv : isWord s.data.toList = v)
    (hK : wpList Tryd.prog ops Q rest (a.put o.dst (.bool v)) w) :
    wpList Tryd.prog ops Q (o :: rest) a w :=
  wpList_lookup_word hg m x hop b _ _ hm hown s hx hs (by rw [isWord_rev, hv]; exact hK)
theorem count_word_n (s : ByteArray) (hs : s.size ≤ maxLen) (n : Nat) (h : cnt innB s.data.toList = n) (w : World) :
    Calls Tryd.prog 25 #[.string s, .func (.func 42) #[] #[]] w fun e w' => e = .returned (.int .i64 (n : Nat)) ∧ w = w' := by
  subst h; exact count_word s hs w
theorem word_front (s : ByteArray) (n : Nat) (h : cnt innB s.data.toList = n) : n ≤ s.size ∧ (s.extract 0 n).data.toList = s.data.toList.takeWhile innB ∧ (s.data.toList.takeWhile innB).length = n := by
  refine ⟨by rw [← h, ← size_toList]; exact cnt_le _ _, ?_, h⟩
  rw [extract_toList]; simp; rw [← h, take_cnt]
theorem wordTok_word {l : List UInt8} (h : isWord (l.takeWhile innB) = true) : wordTok l = some ⟨2, 0, l.takeWhile innB, 0⟩ := by
  unfold wordTok; rw [if_pos h]
theorem wordTok_long {l : List UInt8} (h : isWord (l.takeWhile innB) = false) (h2 : 16 < (l.takeWhile innB).length) : wordTok l = none := by
  unfold wordTok; rw [if_neg (by rw [h]; decide), if_pos h2]
theorem wordTok_name {l : List UInt8} (h : isWord (l.takeWhile innB) = false) (h2 : ¬ 16 < (l.takeWhile innB).length) : wordTok l = some ⟨0, 0, l.takeWhile innB, 0⟩ := by
  unfold wordTok; rw [if_neg (by rw [h]; decide), if_neg h2]

set_option maxHeartbeats 2000000 in
theorem readWord_any (s : ByteArray) (hs : s.size ≤ maxLen) (b : Nat) (w : World) (hW : Words w b) :
    Calls Tryd.prog 31 #[.string s, .map (some b)] w fun e w' => e = .returned (tokR (wordTok s.data.toList)) ∧ Below w.heap.size w w' := by
  obtain ⟨n, hn⟩ : ∃ n, cnt innB s.data.toList = n := ⟨_, rfl⟩
  obtain ⟨hle, hX0, hlen⟩ := word_front s n hn
  have hsz : (s.extract 0 n).size = n := by rw [← size_toList, hX0, hlen]
  have hx : (s.extract 0 n).size ≤ maxLen := by omega
  have hX := Lib.hid hX0
  have HN := Lib.hid hn
  clear hX0 hn
  unfold maxLen at hs
  cases hv : isWord (s.data.toList.takeWhile innB)
  · by_cases h16 : 16 < n
    · have hT := Lib.hid (wordTok_long hv (by rw [hlen]; exact h16))
      have HV := Lib.hid hv
      clear hv hlen
      go_enter Tryd.func31, Tryd.ntmps31
      go_wp2_with (first | (go_at_call 25; refine (count_word_n s (by unfold maxLen; omega) n HN.out _).mono ?_; rintro e w' ⟨rfl, rfl⟩) | (refine wpList_lookup_word' rfl _ _ rfl b rfl (hW.below ((Below.refl _ _).alloc (Nat.le_refl _) _)) (s.extract 0 n) rfl hx false (by rw [hX.out, HV.out]) ?_))
      exact bodyPost_ret (v := tokR none) (by simp [tokR, results, Tryd.results31, go_sem]) rfl ⟨by rw [hT.out], by
      repeat (first | exact (Below.refl _ _) | refine Below.setCell ?_ (by simp) _ | refine Below.alloc ?_ (by simp) _)⟩
    · have hT := Lib.hid (wordTok_name hv (by rw [hlen]; exact h16))
      have HV := Lib.hid hv
      clear hv hlen
      go_enter Tryd.func31, Tryd.ntmps31
      go_wp2_with (first | (go_at_call 25; refine (count_word_n s (by unfold maxLen; omega) n HN.out _).mono ?_; rintro e w' ⟨rfl, rfl⟩) | (refine wpList_lookup_word' rfl _ _ rfl b rfl (hW.below ((Below.refl _ _).alloc (Nat.le_refl _) _)) (s.extract 0 n) rfl hx false (by rw [hX.out, HV.out]) ?_) | (go_at_call 43; refine (newToken_any 0 (s.extract 0 n) hx _).mono ?_; rintro e w1 ⟨rfl, hb⟩; obtain ⟨hc, hf⟩ := bcell hb; have hz : w.heap.size < w1.heap.size := (by have := hb.size; simp at this; omega)))
      exact bodyPost_ret (v := .tuple #[.agg #[.int .i64 0, .int .i64 0, .string (s.extract 0 n), .int .i32 0], .bool true]) (by simp [results, Tryd.results31, go_sem, hz, hc]) rfl ⟨by rw [hT.out, eq_bs hX.out]; rfl, by
        repeat (first | exact (((Below.refl _ _).alloc (Nat.le_refl _) _).trans (hb.mono (by simp))) | refine Below.setCell ?_ (by simp) _ | refine Below.alloc ?_ (by simp; omega) _)⟩
  · have hT := Lib.hid (wordTok_word hv)
    have HV := Lib.hid hv
    clear hv hlen hsz
    go_enter Tryd.func31, Tryd.ntmps31
    go_wp2_with (first | (go_at_call 25; refine (count_word_n s (by unfold maxLen; omega) n HN.out _).mono ?_; rintro e w' ⟨rfl, rfl⟩) | (refine wpList_lookup_word' rfl _ _ rfl b rfl (hW.below ((Below.refl _ _).alloc (Nat.le_refl _) _)) (s.extract 0 n) rfl hx true (by rw [hX.out, HV.out]) ?_) | (go_at_call 43; refine (newToken_any 2 (s.extract 0 n) hx _).mono ?_; rintro e w1 ⟨rfl, hb⟩; obtain ⟨hc, hf⟩ := bcell hb; have hz : w.heap.size < w1.heap.size := (by have := hb.size; simp at this; omega)))
    exact bodyPost_ret (v := .tuple #[.agg #[.int .i64 2, .int .i64 0, .string (s.extract 0 n), .int .i32 0], .bool true]) (by simp [results, Tryd.results31, go_sem, hz, hc]) rfl ⟨by rw [hT.out, eq_bs hX.out]; rfl, by
      repeat (first | exact (((Below.refl _ _).alloc (Nat.le_refl _) _).trans (hb.mono (by simp))) | refine Below.setCell ?_ (by simp) _ | refine Below.alloc ?_ (by simp; omega) _)⟩
end Go.Proofs.YtlpmeodphjpmeaaDoor.Lex
