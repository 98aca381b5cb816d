import Derived.Test.YtlpmeodphjpmeaaDoorGaps
import Derived.Test.YtlpmeodphjpmeaaDoorWBack
import Derived.IntWalk
/- The walk of the law of covers. -/
namespace Go.Proofs.YtlpmeodphjpmeaaDoor.Lex
open Go.ChangeShapes Go.WideShapes Go.ChangeAt Go.RowKit

theorem q_same {P : Program} {f : FuncId} {args : Array Value} {w : World} {n : Nat} {v : Value} (h : ∀ W : World, Calls P f args W fun e w' => e = .returned v ∧ W = w') :
    Calls P f args (w.drewN n) fun e w'' => e = .returned v ∧ ∃ m, w'' = w.drewN m := (h _).mono fun _ _ ⟨he, hm⟩ => ⟨he, n, hm.symm⟩
theorem q_add {P : Program} {f : FuncId} {args : Array Value} {w : World} {a n : Nat} {v : Value} (h : ∀ W : World, Calls P f args W fun e w' => e = .returned v ∧ W = w') :
    Calls P f args (w.drewN (a + n)) fun e w'' => e = .returned v ∧ ∃ m, w'' = w.drewN (a + m) := (h _).mono fun _ _ ⟨he, hm⟩ => ⟨he, n, hm.symm⟩
theorem gaps_n (s : ByteArray) (hs : s.size ≤ 100000) (last o b : Bool) (ho : gaps false s.data.toList = some o) (hb : (last || !o) = b) (w : World) :
    Calls Tryd.prog 18 #[.string s, .bool last] w fun e w' => e = .returned (.bool b) ∧ w = w' := by subst hb; exact gaps_any s hs last o ho w
theorem drop_succ {α : Type} {L : List α} {k : Nat} {t : α} (h : L[k]? = some t) : L.drop k = t :: L.drop (k + 1) := by
  obtain ⟨hl, he⟩ := List.getElem?_eq_some_iff.1 h
  rw [List.drop_eq_getElem_cons hl, he]

/-- What the law asks of token k. -/
theorem cover_facts {s : ByteArray} {L : List Tok} {k p : Nat} {t : Tok} (ht : L[k]? = some t) (hp : p ≤ s.size) (hsc : sc (s.data.toList.drop p) p = (L.drop k, none)) :
    ∃ q r : Nat, t.pos = (q : Int) ∧ p ≤ q ∧ q + t.text.length = r ∧ r ≤ s.size ∧ 0 < t.text.length ∧ (s.extract q r).data.toList = t.text ∧ gaps false (s.extract p q).data.toList = some false ∧
      sc (s.data.toList.drop r) r = (L.drop (k + 1), none) ∧ tokenAt (t.text ++ s.data.toList.drop r) = some { t with pos := 0 } := by
  rw [drop_succ ht] at hsc
  obtain ⟨g, u', e, hpos, hg, hne, h1, h2⟩ := first hsc
  have hlen := congrArg List.length e
  simp only [List.length_drop, List.length_append, size_toList] at hlen
  have hx : 0 < t.text.length := by
    cases hq : t.text with
    | nil => exact absurd hq hne
    | cons c z => simp
  have e1 : s.data.toList.drop (p + g.length) = t.text ++ u' := by
    rw [← List.drop_drop, e]; simp
  have e2 : s.data.toList.drop (p + g.length + t.text.length) = u' := by
    rw [← List.drop_drop, e1]; simp
  refine ⟨p + g.length, p + g.length + t.text.length, hpos, by omega, rfl, by omega, hx, ?_, ?_, ?_, ?_⟩
  · rw [extract_toList, e1, show p + g.length + t.text.length - (p + g.length) = t.text.length by omega]; simp
  · rw [extract_toList, e, show p + g.length - p = g.length by omega]; simp [hg]
  · rw [e2]; exact h1
  · rw [e2]; exact h2

set_option maxHeartbeats 4000000 in
theorem covers_walk (s : ByteArray) (hs : s.size ≤ maxLen) (w : World) (hS : Sg w) : Calls Tryd.prog 7 #[.string s] w fun e w' => e = .returned (.bool true) ∧ Below w.heap.size w w' := by
  have hs2 := hs
  unfold maxLen at hs
  have HS := Lib.hid hS
  clear hS
  by_cases h6 : 6000 < s.size
  · go_enter Tryd.func7, Tryd.ntmps7
    go_wp2_with fail
    refine (awake_any _ HS.out).mono ?_
    rintro e w1 ⟨rfl, hb1⟩
    go_wp2
    go_ret
    exact ⟨rfl, hb1⟩
  · have hd : decide ((6000 : Int) < s.size) = false := by simp; omega
    by_cases h4 : 4000 < s.size
    · go_enter Tryd.func7, Tryd.ntmps7
      go_wp2_with fail
      refine (tokens_long s hs2 h4 _).mono ?_
      rintro e w1 ⟨rfl, hb1⟩
      go_wp2_with fail
      refine (awake_any _ (HS.out.below hb1)).mono ?_
      rintro e w2 ⟨rfl, hb2⟩
      go_wp2
      go_ret
      exact ⟨rfl, seq hb1 hb2⟩
    · have h4' : s.size ≤ 4000 := by omega
      obtain ⟨L, o, ho⟩ : ∃ L o, sc s.data.toList 0 = (L, o) := ⟨_, _, rfl⟩
      cases o with
      | none =>
        obtain ⟨b1, b2, b3⟩ := sc_bounds ho
        obtain ⟨n, hn⟩ : ∃ n, L.length = n := ⟨_, rfl⟩
        rw [hn] at b1
        have HO := Lib.hid ho
        have HN := Lib.hid hn
        clear ho h4 b2 b3 hn
        go_enter Tryd.func7, Tryd.ntmps7
        go_wp2_with fail
        refine (tokens_good s h4' L HO.out _ HS.out).mono ?_
        rintro e w1 ⟨⟨A, c, rfl, hr1⟩, hb1⟩
        obtain ⟨A', c', hv, hA⟩ := hr1.open_
        cases hv
        have HA := Lib.hid hA
        have HB1 := Lib.hid hb1
        clear hr1 hA hb1
        rw [HN.out]
        go_wp2
        go_loopw [6, 7] (fun f i wr => ∃ k p : Nat, k ≤ n ∧ p ≤ s.size ∧ i = .int .i64 k ∧ f = .int .i64 p ∧ sc (s.data.toList.drop p) p = (L.drop k, none) ∧ ∃ m, wr = w1.drewN m) (fun _ i _ => n - (intOf i).toNat)
        case atStart => exact ⟨0, 0, Nat.zero_le _, Nat.zero_le _, rfl, rfl, by simpa using HO.out, 0, rfl⟩
        case round =>
          obtain ⟨k, p, hk, hp, rfl, rfl, hsc, m, rfl⟩ := hrel
          by_cases hlt : k < n
          · have hkL : k < L.length := by have := HN.out; omega
            obtain ⟨t, ht⟩ : ∃ t, L[k]? = some t := ⟨_, List.getElem?_eq_getElem hkL⟩
            obtain ⟨b, off, rfl, a0, a1, a2, a3⟩ := HA.out k t ht
            obtain ⟨q, r, hpos, hpq, hqr, hrs, htl, hX, hG, hsc2, _⟩ := cover_facts ht hp hsc
            obtain ⟨x, hx⟩ : ∃ x, t.text.length = x := ⟨_, rfl⟩
            have htz : (bs t.text).size = x := (bs_size _).trans hx
            rw [hx] at hqr htl
            rw [hpos] at a1
            have HX := Lib.hid hX
            have HG := Lib.hid hG
            have HSC := Lib.hid hsc2
            have HQR := Lib.hid hqr
            have hqr2 : q ≤ r := by omega
            have hqs : q ≤ s.size := by omega
            have c1 : decide ((q : Int) < (p : Int)) = false := by simp; omega
            have c2 : ((x : Int) == 0) = false := by simp; omega
            have c3 : decide ((s.size : Int) < (r : Int)) = false := by simp; omega
            have hsum : (q : Int) + (x : Int) = (r : Int) := by omega
            have hwrap : IntKind.i64.wrap ((q : Int) + (x : Int)) = (r : Int) := by rw [hsum]; exact IntWalk.i64_in _ (by omega)
            have c4 : ((s.extract q r).toList == (bs t.text).toList) = true := by rw [ByteArray.toList_eq, ByteArray.toList_eq, bs_toList, hX]; simp
            have c5 : ((s.extract q r).toList != (bs t.text).toList) = false := by rw [ByteArray.toList_eq, ByteArray.toList_eq, bs_toList, hX]; simp
            have hgs : (s.extract p q).size ≤ 100000 := by
              rw [← size_toList, extract_toList]; have := List.length_take_le (q - p) (s.data.toList.drop p); omega
            have HW := Lib.hid hsum
            clear ht hsc hpos hX hG hsc2 hqr hx hsum
            go_wp2_with fail
            go_quiet (fail)
            go_wp2_with fail
            go_quiet ((go_at_call 18; (first | exact q_same (gaps_n (s.extract p q) hgs false false true HG.out rfl) | exact q_add (gaps_n (s.extract p q) hgs false false true HG.out rfl))))
            clear hwrap
            go_wp2
            go_roundw
            case rel => exact ⟨k + 1, r, by omega, hrs, by go_num, by rw [show wrap64 ((q : Int) + (x : Int)) = (r : Int) from by have := HW.out; unfold wrap64; omega], HSC.out, _, by first | rfl | (rw [World.drewN_drewN])⟩
            case measure => simp [intOf]; omega
          · have hkn : L.drop k = [] := List.drop_eq_nil_of_le (by have := HN.out; omega)
            rw [hkn] at hsc
            have hgl := last_ hsc
            obtain ⟨o, hgo⟩ : ∃ o, gaps false (s.data.toList.drop p) = some o := by
              cases h : gaps false (s.data.toList.drop p) with
              | none => exact absurd h hgl
              | some o => exact ⟨o, rfl⟩
            have HG := Lib.hid (show gaps false (s.extract p s.size).data.toList = some o by rw [suffix_list]; exact hgo)
            have hsz := suffix_size s p
            clear hsc hgl hgo hkn
            go_wp2_with fail
            refine (gaps_n (s.extract p s.size) (by omega) true o true HG.out (by simp) _).mono ?_
            rintro e w2 ⟨rfl, rfl⟩
            have HB2 : Below w.heap.size w (w1.drewN m) := below_drewN HB1.out m
            go_wp2_with fail
            refine (awake_any _ (HS.out.below HB2)).mono ?_
            rintro e w3 ⟨rfl, hb3⟩
            go_wp2
            go_ret
            exact ⟨rfl, seq HB2 hb3⟩
      | some i =>
        have HO : Hid ((sc s.data.toList 0).2 = some i) := Lib.hid (by rw [ho])
        clear ho h4
        go_enter Tryd.func7, Tryd.ntmps7
        go_wp2_with fail
        refine (tokens_bad s h4' i HO.out _ HS.out).mono ?_
        rintro e w1 ⟨rfl, hb1⟩
        go_wp2_with fail
        refine (awake_any _ (HS.out.below hb1)).mono ?_
        rintro e w2 ⟨rfl, hb2⟩
        go_wp2
        go_ret
        exact ⟨rfl, seq hb1 hb2⟩
end Go.Proofs.YtlpmeodphjpmeaaDoor.Lex
