import Derived.Test.YtlpmeodphjpmeaaDoorWBlanks
/- The walk of the law of blanks: the loop and the rest. -/
namespace Go.Proofs.YtlpmeodphjpmeaaDoor.Lex
open Go.ChangeShapes Go.WideShapes Go.ChangeAt Go.RowKit

set_option maxHeartbeats 4000000 in
theorem blanks_loop (s : ByteArray) (h4 : s.size ≤ 4000) (L : List Tok) (ho : sc s.data.toList 0 = (L, none)) (G : Value) (l : List UInt8) (hl : l.length ≤ 2000) (w : World) (hG : Rb w G l) (hS : Sg w) (hd : decide ((6000 : Int) < s.size) = false) :
    Calls Tryd.prog 9 #[.string s, G] w fun e w' => e = .returned (.bool true) ∧ Below w.heap.size w w' := by
  have HS := Lib.hid hS
  clear hS
  obtain ⟨b1, b2, b3⟩ := sc_bounds ho
  obtain ⟨n, hn⟩ : ∃ n, L.length = n := ⟨_, rfl⟩
  have hTn : (texts L).length = n := (texts_len L).trans hn
  rw [hn] at b1
  have hbl := blk_len (gapK l) (texts L) 0
  rw [hTn] at hbl
  obtain ⟨J, hJ⟩ : ∃ J, blk (gapK l) 0 (texts L) = J := ⟨_, rfl⟩
  obtain ⟨jl, hjl⟩ : ∃ jl, J.length = jl := ⟨_, rfl⟩
  have hjb : jl ≤ 60000 := by rw [← hjl, ← hJ]; omega
  have hjsz : (bs J).size = jl := (bs_size J).trans hjl
  obtain ⟨M, hM, hkey⟩ := sc_blk (gapK l) L (sc_good ho) 0 0
  have hM2 : sc (bs J).data.toList 0 = (M, none) := by rw [bs_toList, ← hJ]; exact hM
  have hML : M.length = L.length := by have := congrArg List.length hkey; simpa using this
  have HSM := Lib.hid (key_same hkey)
  have HO := Lib.hid ho
  have HN := Lib.hid hn
  have HTN := Lib.hid hTn
  have HJ := Lib.hid hJ
  have HJL := Lib.hid hjl
  have HM := Lib.hid hM2
  have HML := Lib.hid hML
  obtain ⟨g, hg⟩ : ∃ g, l.length = g := ⟨_, rfl⟩
  rw [hg] at hl
  obtain ⟨GA, gc, rfl, hGA⟩ := hG.open_
  have HG := Lib.hid hG
  have HGL := Lib.hid hg
  have hlm : g ≤ 2000 := hl
  clear ho b2 b3 hn hTn hbl hJ hjl hM hkey hM2 hML hG hg hl hGA
  rw [HGL.out]
  go_enter Tryd.func9, Tryd.ntmps9
  go_wp2_with fail
  refine (tokens_good s h4 L HO.out _ HS.out).mono ?_
  rintro e w1 ⟨⟨A, c, rfl, hr1⟩, hb1⟩
  have HR1 := Lib.hid hr1
  have HB1 := Lib.hid hb1
  clear hr1 hb1
  rw [HN.out]
  go_wp2
  go_loopw [8, 9] (fun v i wr => ∃ (k : Nat) (acc : List UInt8), k ≤ n + 1 ∧ i = .int .i64 k ∧ v = .string (bs acc) ∧ AccRel (gapK l) (texts L) k acc ∧ Below w1.heap.size w1 wr) (fun _ i _ => n + 1 - (intOf i).toNat)
  case atStart => exact ⟨0, [], Nat.zero_le _, rfl, rfl, .inl ⟨Nat.zero_le _, by simp⟩, Below.refl _ _⟩
  case round =>
    obtain ⟨k, acc, hk, rfl, rfl, hacc, hbr⟩ := hrel
    have HBR := Lib.hid hbr
    have HAC := Lib.hid hacc
    have hbrs := hbr.size
    clear hbr hacc
    by_cases hkn : k ≤ n
    · obtain ⟨c1, hc1⟩ : ∃ c1, gapB l k = c1 := ⟨_, rfl⟩
      have hc256 : c1 < 256 := by rw [← hc1]; exact gapB_lt l k
      obtain ⟨gt, hgt⟩ : ∃ gt, gapS (c1 % 8) = gt := ⟨_, rfl⟩
      have hgk : gapS (gapK l k) = gt := by unfold gapK; rw [hc1, hgt]
      have HGT := Lib.hid hgt
      have HGK := Lib.hid hgk
      have HGAP := Lib.hid (gap_n c1 hc256 gt hgt)
      clear hgt hgk
      by_cases hkg : k < g
      · by_cases hkt : k < n
        · have hkl : k < l.length := by have := HGL.out; omega
          obtain ⟨GA', gc', hv, hGA⟩ := ((HG.out.below HB1.out).below HBR.out).open_
          cases hv
          obtain ⟨gb, go_, rfl, hgc⟩ := hGA k l[k] (List.getElem?_eq_getElem hkl)
          have hgv : l[k].toNat = c1 := by rw [← hc1]; unfold gapB; rw [if_pos hkl, List.getD_eq_getElem?_getD, List.getElem?_eq_getElem hkl]; rfl
          rw [hgv] at hgc
          clear hgv hGA hc1
          have hu0 : IntKind.u8.wrap (k : Int) = ((k % 256 : Nat) : Int) := by rw [IntKind.wrap_u8]; omega
          have hkL : k < L.length := by have := HN.out; omega
          obtain ⟨t, ht⟩ : ∃ t, L[k]? = some t := ⟨_, List.getElem?_eq_getElem hkL⟩
          obtain ⟨hac2, hacl⟩ := HAC.out.tok (texts_at ht)
          rw [HGK.out] at hac2 hacl
          rw [HJ.out, HJL.out] at hacl
          have hadd1 := run_add_bs acc gt (acc ++ gt) rfl (by simp at hacl ⊢; omega)
          have hadd2 := run_add_bs (acc ++ gt) t.text (acc ++ gt ++ t.text) rfl (by omega)
          have HAC2 := Lib.hid hac2
          have HT := Lib.hid ht
          clear hac2 hacl ht
          go_wp2_with fail
          refine (HGAP.out _).mono ?_
          rintro e w2 ⟨rfl, hb2⟩
          have HB2 := seq HBR.out hb2
          obtain ⟨A', c', hv, hA⟩ := (HR1.out.below HB2).open_
          cases hv
          obtain ⟨b, off, rfl, a0, a1, a2, a3⟩ := hA k t HT.out
          clear hA hb2
          go_wp2
          go_roundw
          case rel => exact ⟨k + 1, acc ++ gt ++ t.text, by omega, by go_num, by rw [List.append_assoc], HAC2.out, HB2⟩
          case measure => simp [intOf]; omega
        · have hkl : k < l.length := by have := HGL.out; omega
          obtain ⟨GA', gc', hv, hGA⟩ := ((HG.out.below HB1.out).below HBR.out).open_
          cases hv
          obtain ⟨gb, go_, rfl, hgc⟩ := hGA k l[k] (List.getElem?_eq_getElem hkl)
          have hgv : l[k].toNat = c1 := by rw [← hc1]; unfold gapB; rw [if_pos hkl, List.getD_eq_getElem?_getD, List.getElem?_eq_getElem hkl]; rfl
          rw [hgv] at hgc
          clear hgv hGA hc1
          have hu0 : IntKind.u8.wrap (k : Int) = ((k % 256 : Nat) : Int) := by rw [IntKind.wrap_u8]; omega
          have hend := HAC.out.end_ (by have := HTN.out; omega)
          rw [HGK.out, HJ.out] at hend
          have hadd1 := run_add_bs acc gt J hend (by rw [HJL.out]; omega)
          clear hend
          go_wp2_with fail
          refine (HGAP.out _).mono ?_
          rintro e w2 ⟨rfl, hb2⟩
          have HB2 := seq HBR.out hb2
          clear hb2
          go_wp2
          go_roundw
          case rel => exact ⟨k + 1, J, by omega, by go_num, rfl, .inr ⟨by have := HTN.out; omega, HJ.out.symm⟩, HB2⟩
          case measure => simp [intOf]; omega
      · by_cases hkt : k < n
        · have hgv : k % 256 = c1 := by rw [← hc1]; unfold gapB; rw [if_neg (by have := HGL.out; omega)]
          have hu0 : IntKind.u8.wrap (k : Int) = (c1 : Int) := by rw [IntKind.wrap_u8]; omega
          have hu1 : (k : Int) % 256 = (c1 : Int) := by omega
          clear hgv hc1
          have hkL : k < L.length := by have := HN.out; omega
          obtain ⟨t, ht⟩ : ∃ t, L[k]? = some t := ⟨_, List.getElem?_eq_getElem hkL⟩
          obtain ⟨hac2, hacl⟩ := HAC.out.tok (texts_at ht)
          rw [HGK.out] at hac2 hacl
          rw [HJ.out, HJL.out] at hacl
          have hadd1 := run_add_bs acc gt (acc ++ gt) rfl (by simp at hacl ⊢; omega)
          have hadd2 := run_add_bs (acc ++ gt) t.text (acc ++ gt ++ t.text) rfl (by omega)
          have HAC2 := Lib.hid hac2
          have HT := Lib.hid ht
          clear hac2 hacl ht
          go_wp2_with fail
          refine (HGAP.out _).mono ?_
          rintro e w2 ⟨rfl, hb2⟩
          have HB2 := seq HBR.out hb2
          obtain ⟨A', c', hv, hA⟩ := (HR1.out.below HB2).open_
          cases hv
          obtain ⟨b, off, rfl, a0, a1, a2, a3⟩ := hA k t HT.out
          clear hA hb2
          go_wp2
          go_roundw
          case rel => exact ⟨k + 1, acc ++ gt ++ t.text, by omega, by go_num, by rw [List.append_assoc], HAC2.out, HB2⟩
          case measure => simp [intOf]; omega
        · have hgv : k % 256 = c1 := by rw [← hc1]; unfold gapB; rw [if_neg (by have := HGL.out; omega)]
          have hu0 : IntKind.u8.wrap (k : Int) = (c1 : Int) := by rw [IntKind.wrap_u8]; omega
          have hu1 : (k : Int) % 256 = (c1 : Int) := by omega
          clear hgv hc1
          have hend := HAC.out.end_ (by have := HTN.out; omega)
          rw [HGK.out, HJ.out] at hend
          have hadd1 := run_add_bs acc gt J hend (by rw [HJL.out]; omega)
          clear hend
          go_wp2_with fail
          refine (HGAP.out _).mono ?_
          rintro e w2 ⟨rfl, hb2⟩
          have HB2 := seq HBR.out hb2
          clear hb2
          go_wp2
          go_roundw
          case rel => exact ⟨k + 1, J, by omega, by go_num, rfl, .inr ⟨by have := HTN.out; omega, HJ.out.symm⟩, HB2⟩
          case measure => simp [intOf]; omega
    · have hJJ : acc = J := by
        rcases HAC.out with ⟨h, _⟩ | ⟨_, h⟩
        · have := HTN.out; omega
        · rw [h, HJ.out]
      subst hJJ
      have HB2 := seq HB1.out HBR.out
      by_cases hj4 : 4000 < jl
      · go_wp2_with fail
        refine (awake_any _ (HS.out.below HB2)).mono ?_
        rintro e w2 ⟨rfl, hb2⟩
        go_wp2
        go_ret
        exact ⟨rfl, seq HB2 hb2⟩
      · have hj4' : (bs acc).size ≤ 4000 := by omega
        go_wp2_with fail
        refine (tokens_good (bs acc) hj4' M HM.out _ (HS.out.below HB2)).mono ?_
        rintro e w2 ⟨⟨A2, c2, rfl, hr2⟩, hb2⟩
        have HR2 := Lib.hid hr2
        have HB3 := seq HB2 hb2
        clear hr2
        go_wp2_with fail
        refine (same_bel false _ _ L M HSM.out (by have := HN.out; omega) _ ?_ HR2.out).mono ?_
        · have := (HR1.out.below HBR.out).below hb2
          rw [HN.out] at this
          exact this
        rintro e w3 ⟨rfl, hb3⟩
        have HB4 := seq HB3 hb3
        go_wp2_with fail
        refine (awake_any _ (HS.out.below HB4)).mono ?_
        rintro e w4 ⟨rfl, hb4⟩
        go_wp2
        go_ret
        exact ⟨rfl, seq HB4 hb4⟩

theorem blanks_walk (s : ByteArray) (hs : s.size ≤ maxLen) (G : Value) (l : List UInt8) (hl : l.length ≤ maxLen) (w : World) (hG : Rb w G l) (hS : Sg w) : Calls Tryd.prog 9 #[.string s, G] w fun e w' => e = .returned (.bool true) ∧ Below w.heap.size w w' := by
  have hs2 := hs
  unfold maxLen at hs hl
  have HS := Lib.hid hS
  clear hS
  by_cases h6 : 6000 < s.size
  · go_enter Tryd.func9, Tryd.ntmps9
    go_wp2_with fail
    refine (awake_any _ HS.out).mono ?_
    rintro e w1 ⟨rfl, hb1⟩
    go_wp2
    go_ret
    exact ⟨rfl, hb1⟩
  · have hd : decide ((6000 : Int) < s.size) = false := by simp; omega
    by_cases h4 : 4000 < s.size
    · go_enter Tryd.func9, Tryd.ntmps9
      go_wp2_with fail
      refine (tokens_long s hs2 h4 _).mono ?_
      rintro e w1 ⟨rfl, hb1⟩
      go_wp2_with fail
      refine (awake_any _ (HS.out.below hb1)).mono ?_
      rintro e w2 ⟨rfl, hb2⟩
      go_wp2
      go_ret
      exact ⟨rfl, seq hb1 hb2⟩
    · have h4' : s.size ≤ 4000 := by omega
      obtain ⟨L, o, ho⟩ : ∃ L o, sc s.data.toList 0 = (L, o) := ⟨_, _, rfl⟩
      cases o with
      | none =>
        by_cases h2 : l.length ≤ 2000
        · exact blanks_loop s h4' L ho G l h2 w hG HS.out hd
        · have HO := Lib.hid ho
          obtain ⟨g, hg⟩ : ∃ g, l.length = g := ⟨_, rfl⟩
          obtain ⟨GA, gc, rfl, hGA⟩ := hG.open_
          rw [hg] at h2 ⊢
          have h2' : 2000 < g := by omega
          clear ho h4 hGA hG hg hl h2
          go_enter Tryd.func9, Tryd.ntmps9
          go_wp2_with fail
          refine (tokens_good s h4' L HO.out _ HS.out).mono ?_
          rintro e w1 ⟨⟨A, c, rfl, hr1⟩, hb1⟩
          clear hr1
          go_wp2_with fail
          refine (awake_any _ (HS.out.below hb1)).mono ?_
          rintro e w2 ⟨rfl, hb2⟩
          go_wp2
          go_ret
          exact ⟨rfl, seq hb1 hb2⟩
      | some i =>
        have HO : Hid ((sc s.data.toList 0).2 = some i) := Lib.hid (by rw [ho])
        clear ho h4
        go_enter Tryd.func9, Tryd.ntmps9
        go_wp2_with fail
        refine (tokens_bad s h4' i HO.out _ HS.out).mono ?_
        rintro e w1 ⟨rfl, hb1⟩
        go_wp2_with fail
        refine (awake_any _ (HS.out.below hb1)).mono ?_
        rintro e w2 ⟨rfl, hb2⟩
        go_wp2
        go_ret
        exact ⟨rfl, seq hb1 hb2⟩
end Go.Proofs.YtlpmeodphjpmeaaDoor.Lex
