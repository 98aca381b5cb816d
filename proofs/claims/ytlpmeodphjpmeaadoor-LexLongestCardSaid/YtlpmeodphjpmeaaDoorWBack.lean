import Derived.Test.YtlpmeodphjpmeaaDoorJoin
import Derived.Test.YtlpmeodphjpmeaaDoorAwake
import Derived.Test.YtlpmeodphjpmeaaDoorBMath
/- The walk of the law of texts joined and read again. -/
namespace Go.Proofs.YtlpmeodphjpmeaaDoor.Lex
open Go.ChangeShapes Go.WideShapes Go.ChangeAt Go.RowKit

theorem Rt.nil_ (w : World) : Rt w (.slice none 0 0) [] := .inl ⟨rfl, rfl⟩
theorem scan_le_ : ∀ (n : Nat) (l : List UInt8) (i : Nat), (scan n l i).1.length ≤ n
  | 0, _, _ => by simp [scan]
  | _ + 1, [], _ => by simp [scan]
  | n + 1, c :: r, i => by
    unfold scan
    split
    · exact Nat.le_succ_of_le (scan_le_ n _ _)
    · split
      · exact Nat.le_succ_of_le (scan_le_ n _ _)
      · split
        · simp
        · simp only [List.length_cons]
          exact Nat.succ_le_succ (scan_le_ n _ _)
theorem sc_bounds {s : ByteArray} {L : List Tok} {o : Option Nat} (h : sc s.data.toList 0 = (L, o)) : L.length ≤ s.size ∧ ((texts L).map (·.length)).sum ≤ s.size ∧ (joinL (texts L)).length ≤ 2 * s.size := by
  have h1 := scan_le_ s.data.toList.length s.data.toList 0
  have h2 := scan_sum s.data.toList.length s.data.toList 0
  rw [show scan s.data.toList.length s.data.toList 0 = (L, o) from h] at h1 h2
  rw [size_toList] at h1 h2
  have e : (texts L).map (·.length) = L.map (·.text.length) := by simp [texts, Function.comp_def]
  have h3 := joinL_sum (texts L)
  rw [e, texts_len] at h3
  refine ⟨h1, by rw [e]; exact h2, ?_⟩
  simp only at h1 h2
  omega
theorem key_texts {L M : List Tok} (h : M.map key = L.map key) : texts M = texts L := by
  have := congrArg (List.map fun x => x.2.1) h
  simpa [texts, key, Function.comp_def] using this
theorem key_same {L M : List Tok} (h : M.map key = L.map key) : SameL false L M := by
  refine ⟨by have := congrArg List.length h; simpa using this.symm, fun i t u ht hu => ?_⟩
  have h1 : (M.map key)[i]? = some (key u) := by simp [hu]
  have h2 : (L.map key)[i]? = some (key t) := by simp [ht]
  rw [h, h2] at h1
  have e := Option.some.inj h1
  simp only [key, Prod.mk.injEq] at e
  exact ⟨e.1, e.2.1, e.2.2, fun h => by cases h⟩

set_option maxHeartbeats 4000000 in
theorem back_walk (s : ByteArray) (hs : s.size ≤ maxLen) (w : World) (hS : Sg w) : Calls Tryd.prog 6 #[.string s] w fun e w' => e = .returned (.bool true) ∧ Below w.heap.size w w' := by
  have hs2 := hs
  unfold maxLen at hs
  have HS := Lib.hid hS
  clear hS
  by_cases h6 : 6000 < s.size
  · go_enter Tryd.func6, Tryd.ntmps6
    go_wp2_with fail
    refine (awake_any _ HS.out).mono ?_
    rintro e w1 ⟨rfl, hb1⟩
    go_wp2
    go_ret
    exact ⟨rfl, hb1⟩
  · have hd : decide ((6000 : Int) < s.size) = false := by simp; omega
    by_cases h4 : 4000 < s.size
    · go_enter Tryd.func6, Tryd.ntmps6
      go_wp2_with fail
      refine (tokens_long s hs2 h4 _).mono ?_
      rintro e w1 ⟨rfl, hb1⟩
      go_wp2_with fail
      refine (awake_any _ (HS.out.below hb1)).mono ?_
      rintro e w2 ⟨rfl, hb2⟩
      go_wp2
      go_ret
      exact ⟨rfl, seq hb1 hb2⟩
    · have h4' : s.size ≤ 4000 := by omega
      obtain ⟨L, o, ho⟩ : ∃ L o, sc s.data.toList 0 = (L, o) := ⟨_, _, rfl⟩
      cases o with
      | none =>
        obtain ⟨b1, b2, b3⟩ := sc_bounds ho
        obtain ⟨M, hM, hkey⟩ := sc_join L (sc_good ho) 0
        obtain ⟨J, hJ⟩ : ∃ J, joinL (texts L) = J := ⟨_, rfl⟩
        obtain ⟨jl, hjl⟩ : ∃ jl, J.length = jl := ⟨_, rfl⟩
        have hjsz : (bs J).size = jl := (bs_size J).trans hjl
        have hb3 : jl ≤ 8000 := by rw [← hjl, ← hJ]; omega
        have hM2 : sc (bs J).data.toList 0 = (M, none) := by rw [bs_toList, ← hJ]; exact hM
        have hMJ : joinL (texts M) = J := by rw [key_texts hkey, hJ]
        have hML : M.length = L.length := by have := congrArg List.length hkey; simpa using this
        have hSame := key_same hkey
        have HO := Lib.hid ho
        have HM := Lib.hid hM2
        have HMJ := Lib.hid hMJ
        have HML := Lib.hid hML
        have HSM := Lib.hid hSame
        have HJ := Lib.hid hJ
        have HJL := Lib.hid hjl
        clear ho h4 hM hkey hJ hjl hM2 hMJ hML hSame b2 b3
        have hjb : (joinL (texts L)).length ≤ 1000000 := by rw [HJ.out, HJL.out]; omega
        have HJB := Lib.hid hjb
        clear hjb
        have heq : ((bs J).toList == (bs J).toList) = true := by simp
        by_cases hj4 : 4000 < jl
        · go_enter Tryd.func6, Tryd.ntmps6
          go_wp2_with fail
          refine (tokens_good s h4' L HO.out _ HS.out).mono ?_
          rintro e w1 ⟨⟨A, c, rfl, hr1⟩, hb1⟩
          have HR1 := Lib.hid hr1
          clear hr1
          go_wp2_with fail
          refine (lexJoin_any (.slice A L.length c) L (by omega) HJB.out _ HR1.out).mono ?_
          rintro e w2 ⟨rfl, hb2⟩
          rw [HJ.out]
          go_wp2_with fail
          refine (awake_any _ (HS.out.below (seq hb1 hb2))).mono ?_
          rintro e w3 ⟨rfl, hb3⟩
          go_wp2
          go_ret
          exact ⟨rfl, seq (seq hb1 hb2) hb3⟩
        · have hj4' : (bs J).size ≤ 4000 := by omega
          go_enter Tryd.func6, Tryd.ntmps6
          go_wp2_with fail
          refine (tokens_good s h4' L HO.out _ HS.out).mono ?_
          rintro e w1 ⟨⟨A, c, rfl, hr1⟩, hb1⟩
          have HR1 := Lib.hid hr1
          clear hr1
          go_wp2_with fail
          refine (lexJoin_any (.slice A L.length c) L (by omega) HJB.out _ HR1.out).mono ?_
          rintro e w2 ⟨rfl, hb2⟩
          have HB2 := seq hb1 hb2
          rw [HJ.out]
          go_wp2_with fail
          refine (tokens_good (bs J) hj4' M HM.out _ (HS.out.below HB2)).mono ?_
          rintro e w3 ⟨⟨A2, c2, rfl, hr3⟩, hb3⟩
          have HR3 := Lib.hid hr3
          have HB3 := seq HB2 hb3
          clear hr3
          go_wp2_with fail
          refine (same_bel false _ _ L M HSM.out (by omega) _ ((HR1.out.below hb2).below hb3) HR3.out).mono ?_
          rintro e w4 ⟨rfl, hb4⟩
          have HB4 := seq HB3 hb4
          go_wp2_with fail
          refine (lexJoin_any (.slice A2 M.length c2) M (by have := HML.out; omega) (by rw [HMJ.out, HJL.out]; omega) _ (HR3.out.below hb4)).mono ?_
          rintro e w5 ⟨rfl, hb5⟩
          have HB5 := seq HB4 hb5
          rw [HMJ.out]
          go_wp2_with fail
          refine (awake_any _ (HS.out.below HB5)).mono ?_
          rintro e w6 ⟨rfl, hb6⟩
          go_wp2
          go_ret
          exact ⟨rfl, seq HB5 hb6⟩
      | some i =>
        have HO : Hid ((sc s.data.toList 0).2 = some i) := Lib.hid (by rw [ho])
        clear ho h4
        go_enter Tryd.func6, Tryd.ntmps6
        go_wp2_with fail
        refine (tokens_bad s h4' i HO.out _ HS.out).mono ?_
        rintro e w1 ⟨rfl, hb1⟩
        go_wp2_with fail
        refine (awake_any _ (HS.out.below hb1)).mono ?_
        rintro e w2 ⟨rfl, hb2⟩
        go_wp2
        go_ret
        exact ⟨rfl, seq hb1 hb2⟩
end Go.Proofs.YtlpmeodphjpmeaaDoor.Lex
