import Derived.Test.YtlpmeodphjpmeaaDoorAwake
import Derived.Test.YtlpmeodphjpmeaaDoorRTokens
import Derived.Test.YtlpmeodphjpmeaaDoorOneInt
import Derived.Test.YtlpmeodphjpmeaaDoorOneSign
/- The walk of the law of tokens. -/
namespace Go.Proofs.YtlpmeodphjpmeaaDoor.Lex
open Go.ChangeShapes Go.WideShapes Go.ChangeAt Go.RowKit

theorem one_any : OneAny := by
  intro s hs i hi w
  cases hl : letN (s[i].toNat : Int)
  · cases hd : digN (s[i].toNat : Int)
    · exact one_sign s hs i hi hl hd w
    · exact one_int s hs i hi hl hd w
  · exact one_word s hs i hi hl w
theorem rtokens_good (s : ByteArray) (h4 : s.size ≤ 4000) (L : List Tok) (h : sc s.data.toList 0 = (L, none)) (w : World) :
    Calls Tryd.prog 12 #[.string s] w fun e w' => (∃ A c, e = .returned (.tuple #[.slice A L.length c, .int .i64 0, .int .i64 0]) ∧ Rt w' (.slice A L.length c) L) ∧ Below w.heap.size w w' :=
  (rtokens_short one_any s h4 w).mono fun e w' ⟨hp, hb⟩ => ⟨(by
    rcases hp with ⟨v, hn, he, hr⟩ | ⟨i, hi, _⟩
    · rw [h] at hr
      obtain ⟨A, c, hv, _⟩ := hr.open_
      subst hv
      exact ⟨A, c, he, hr⟩
    · rw [h] at hi
      cases hi), hb⟩
theorem rtokens_bad (s : ByteArray) (h4 : s.size ≤ 4000) (i : Nat) (h : (sc s.data.toList 0).2 = some i) (w : World) :
    Calls Tryd.prog 12 #[.string s] w fun e w' => e = .returned (.tuple #[.slice none 0 0, .int .i64 i, .int .i64 2]) ∧ Below w.heap.size w w' :=
  (rtokens_short one_any s h4 w).mono fun e w' ⟨hp, hb⟩ => ⟨(by
    rcases hp with ⟨v, hn, he, hr⟩ | ⟨j, hj, he⟩
    · rw [h] at hn
      cases hn
    · rw [h] at hj
      cases hj
      exact he), hb⟩
theorem Rt.nil (w : World) : Rt w (.slice none 0 0) [] := .inl ⟨rfl, rfl⟩
/-- There are no more tokens than bytes. -/
theorem scan_le : ∀ (n : Nat) (l : List UInt8) (i : Nat), (scan n l i).1.length ≤ n
  | 0, _, _ => by simp [scan]
  | _ + 1, [], _ => by simp [scan]
  | n + 1, c :: r, i => by
    unfold scan
    split
    · exact Nat.le_succ_of_le (scan_le n _ _)
    · split
      · exact Nat.le_succ_of_le (scan_le n _ _)
      · split
        · simp
        · simp only [List.length_cons]
          exact Nat.succ_le_succ (scan_le n _ _)
theorem sc_le {s : ByteArray} {L : List Tok} {o : Option Nat} (h : sc s.data.toList 0 = (L, o)) : L.length ≤ s.size := by
  have := scan_le s.data.toList.length s.data.toList 0
  rw [show scan s.data.toList.length s.data.toList 0 = (L, o) from h, size_toList] at this
  exact this

set_option maxHeartbeats 2000000 in
theorem tokens_walk (s : ByteArray) (hs : s.size ≤ maxLen) (w : World) (hS : Sg w) : Calls Tryd.prog 3 #[.string s] w fun e w' => e = .returned (.bool true) ∧ Below w.heap.size w w' := by
  have hs2 := hs
  unfold maxLen at hs
  have HS := Lib.hid hS
  clear hS
  by_cases h6 : 6000 < s.size
  · go_enter Tryd.func3, Tryd.ntmps3
    go_wp2_with fail
    refine (awake_any _ HS.out).mono ?_
    rintro e w1 ⟨rfl, hb1⟩
    go_wp2
    go_ret
    exact ⟨rfl, hb1⟩
  · have hd : decide ((6000 : Int) < s.size) = false := by simp; omega
    by_cases h4 : 4000 < s.size
    · go_enter Tryd.func3, Tryd.ntmps3
      go_wp2_with fail
      refine (tokens_long s hs2 h4 _).mono ?_
      rintro e w1 ⟨rfl, hb1⟩
      go_wp2_with fail
      refine (rtokens_long s hs2 h4 _).mono ?_
      rintro e w2 ⟨rfl, hb2⟩
      go_wp2_with fail
      refine (same_bel true _ _ [] [] (SameL.refl _ _) (by simp) _ (Rt.nil _) (Rt.nil _)).mono ?_
      rintro e w3 ⟨rfl, hb3⟩
      have HB3 := seq (seq hb1 hb2) hb3
      go_wp2_with fail
      refine (awake_any _ (HS.out.below HB3)).mono ?_
      rintro e w4 ⟨rfl, hb4⟩
      go_wp2
      go_ret
      exact ⟨rfl, seq HB3 hb4⟩
    · have h4' : s.size ≤ 4000 := by omega
      obtain ⟨L, o, ho⟩ : ∃ L o, sc s.data.toList 0 = (L, o) := ⟨_, _, rfl⟩
      have hLl := sc_le ho
      cases o with
      | none =>
        have HO := Lib.hid ho
        clear ho h4
        go_enter Tryd.func3, Tryd.ntmps3
        go_wp2_with fail
        refine (tokens_good s h4' L HO.out _ HS.out).mono ?_
        rintro e w1 ⟨⟨A, c, rfl, hr1⟩, hb1⟩
        have HR1 := Lib.hid hr1
        clear hr1
        go_wp2_with fail
        refine (rtokens_good s h4' L HO.out _).mono ?_
        rintro e w2 ⟨⟨A2, c2, rfl, hr2⟩, hb2⟩
        have HR2 := Lib.hid hr2
        clear hr2
        go_wp2_with fail
        refine (same_bel true _ _ L L (SameL.refl _ _) (by omega) _ (HR1.out.below hb2) HR2.out).mono ?_
        rintro e w3 ⟨rfl, hb3⟩
        have HB3 := seq (seq hb1 hb2) hb3
        go_wp2_with fail
        refine (awake_any _ (HS.out.below HB3)).mono ?_
        rintro e w4 ⟨rfl, hb4⟩
        go_wp2
        go_ret
        exact ⟨rfl, seq HB3 hb4⟩
      | some i =>
        have HO : Hid ((sc s.data.toList 0).2 = some i) := Lib.hid (by rw [ho])
        clear ho h4
        go_enter Tryd.func3, Tryd.ntmps3
        go_wp2_with fail
        refine (tokens_bad s h4' i HO.out _ HS.out).mono ?_
        rintro e w1 ⟨rfl, hb1⟩
        go_wp2_with fail
        refine (rtokens_bad s h4' i HO.out _).mono ?_
        rintro e w2 ⟨rfl, hb2⟩
        go_wp2_with fail
        refine (same_bel true _ _ [] [] (SameL.refl _ _) (by simp) _ (Rt.nil _) (Rt.nil _)).mono ?_
        rintro e w3 ⟨rfl, hb3⟩
        have HB3 := seq (seq hb1 hb2) hb3
        go_wp2_with fail
        refine (awake_any _ (HS.out.below HB3)).mono ?_
        rintro e w4 ⟨rfl, hb4⟩
        go_wp2
        go_ret
        exact ⟨rfl, seq HB3 hb4⟩
end Go.Proofs.YtlpmeodphjpmeaaDoor.Lex
