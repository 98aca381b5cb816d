import Derived.Test.YtbkhnilbgocpnaaGreatDoorW32
import Derived.Test.YtbkhnilbgocpnaaGreatDoorW27
set_option linter.unusedVariables false
set_option linter.unusedSimpArgs false
namespace Go.Proofs.YtbkhnilbgocpnaaGreatDoor.SynC
open Go.Proofs.YtbkhnilbgocpnaaGreatDoor.LexC
open Go Go.ChangeShapes Go.WideShapes Go.ChangeAt Go.RowKit Go.Deep

theorem gt_e (kind op num : Int) (name : List UInt8) (kids : List Ex) (hK : ∀ a ∈ kids, GT a) : GT (.mk kind op num name kids) := by
  intro w bk bo bn bx bA bm bc hok hlen hr hg
  rw [RE_eq] at hr
  obtain ⟨K, hc, hs⟩ := hr
  simp only [exRow, List.cons.injEq, Value.int.injEq, Value.string.injEq, true_and, and_true] at hc
  obtain ⟨e1, e2, e3, e4, e5⟩ := hc
  have e4 := bs_inj e4
  subst e1; subst e2; subst e3; subst e4; subst e5
  have hml := slE_len hs
  subst hml
  rw [rgE] at hg
  obtain ⟨hn, hx, hkl, hgk⟩ := hg
  rw [okE, Bool.and_eq_true] at hok
  rw [gE, gEs_map] at hlen ⊢
  by_cases h4 : bk < 4
  · exact gt_loop _ _ _ _ _ hK w _ _ hok.2 hok.1 hlen hs hgk ⟨hn.1, by omega⟩ h4
  by_cases h5 : bk = 4 ∧ ¬ (bo = 18 ∨ bo = 19)
  · exact gt_loop3 _ _ _ _ _ hK w _ _ hok.2 hok.1 hlen hs hgk ⟨hn.1, by omega⟩ (by omega) h5.2
  · exact gt_loop2 _ _ _ _ _ hK w _ _ hok.2 hok.1 hlen hs hgk ⟨hn.1, by omega⟩ (by omega) (by omega)
mutual
theorem gt_all : (e : Ex) → GT e
  | .mk kind op num name kids => gt_e kind op num name kids (gts_all kids)
theorem gts_all : (l : List Ex) → ∀ a ∈ l, GT a
  | [], _, h => by cases h
  | e :: r, a, h => by
    rcases List.mem_cons.1 h with h1 | h1
    · rw [h1]; exact gt_all e
    · exact gts_all r a h1
end
set_option maxRecDepth 100000 in
set_option maxHeartbeats 2000000 in
theorem refText_30 (a : Ex) (w : World) (bk bo bn : Int) (bx : List UInt8) (bA : Option Addr) (bm bc : Nat) (hr : RE w (fun g => g < w.heap.size) [.int .i64 bk, .int .i64 bo, .int .i32 bn, .string (bs bx), .slice bA bm bc] a) (hg : rgE a) :
    Calls Tryz.prog 30 #[.agg #[.int .i64 bk, .int .i64 bo, .int .i32 bn, .string (bs bx), .slice bA bm bc]] w fun e w' => e = .returned (.tuple #[.string (bs (textE a).1), .int .i64 (textE a).2]) ∧ Below w.heap.size w w' := by
  have hV : ∀ w', Below w.heap.size w w' → Calls Tryz.prog 35 #[.agg #[.int .i64 bk, .int .i64 bo, .int .i32 bn, .string (bs bx), .slice bA bm bc]] w' fun e w2 => e = .returned (.bool (validE a)) ∧ Below w'.heap.size w' w2 := fun w' h => refValid_35 a w' _ _ _ _ _ _ _ (re_bel hr h) hg
  have hT : validE a = true → ∀ w', Below w.heap.size w w' → Calls Tryz.prog 58 #[.agg #[.int .i64 bk, .int .i64 bo, .int .i32 bn, .string (bs bx), .slice bA bm bc]] w' fun e w2 => e = .returned (.string (bs (wriE a))) ∧ Below w'.heap.size w' w2 := fun hv w' h => by
    have hv2 := hv
    unfold validE at hv2
    have h1 := fitE_room hv2
    unfold fitE at hv2
    simp only [Bool.and_eq_true] at hv2
    have hok := hv2.1.1
    have e : wriE a = gE a := gE_txt hok
    rw [e]
    rw [gE_txt hok] at h1
    exact gt_all a w' _ _ _ _ _ _ _ hok h1.2 (re_bel hr h) hg
  have HV := Lib.hid hV
  have HT := Lib.hid hT
  clear hV hT hr
  cases hv : validE a
  · rw [hv] at HV
    rw [textE_bad hv]
    clear HT hv
    go_enter Tryz.func30, Tryz.ntmps30
    go_wp2_with fail
    refine (HV.out _ (bel_al _ _)).mono ?_
    rintro e w1 ⟨rfl, hb1⟩
    have HB1 := Lib.hid (seq (bel_al w (.cells #[.int .i64 bk, .int .i64 bo, .int .i32 bn, .string (bs bx), .slice bA bm bc] 34)) hb1)
    clear hb1
    go_wp2
    go_ret2
    exact ⟨rfl, HB1.out⟩
  · rw [hv] at HV
    rw [textE_ok hv]
    have HT2 := Lib.hid (HT.out hv)
    clear HT hv
    go_enter Tryz.func30, Tryz.ntmps30
    go_wp2_with fail
    refine (HV.out _ (bel_al _ _)).mono ?_
    rintro e w1 ⟨rfl, hb1⟩
    obtain ⟨_, _, _, l1⟩ := loc_keep (q := w.heap.size) (gb_below hb1 (some (w.heap.size + 10))) (heap_alloc_new _ _) (by omega)
    have HB1 := Lib.hid (seq (bel_al w (.cells #[.int .i64 bk, .int .i64 bo, .int .i32 bn, .string (bs bx), .slice bA bm bc] 34)) hb1)
    clear hb1
    go_wp2_with fail
    refine (HT2.out _ HB1.out).mono ?_
    rintro e w2 ⟨rfl, hb2⟩
    have HB2 := Lib.hid (seq HB1.out hb2)
    clear hb2
    go_wp2
    go_ret2
    exact ⟨rfl, HB2.out⟩

set_option maxRecDepth 100000 in
set_option maxHeartbeats 2000000 in
theorem exprTexts_walk (a : Ex) (w : World) (bk bo bn : Int) (bx : List UInt8) (bA : Option Addr) (bm bc : Nat) (hG : Gl w) (hr : RE w (fun g => g < w.heap.size) [.int .i64 bk, .int .i64 bo, .int .i32 bn, .string (bs bx), .slice bA bm bc] a) (hg : rgE a) :
    Calls Tryz.prog 6 #[.agg #[.int .i64 bk, .int .i64 bo, .int .i32 bn, .string (bs bx), .slice bA bm bc]] w fun e w' => e = .returned (.bool true) ∧ Below w.heap.size w w' := by
  have HG := Lib.hid hG
  have HR := Lib.hid hr
  have HW0 := Lib.hid (bel_al w (.cells #[.int .i64 bk, .int .i64 bo, .int .i32 bn, .string (bs bx), .slice bA bm bc] 34))
  have hrgs : rgEs [a] := ⟨hg, trivial⟩
  have HB2 := Lib.hid (seq HW0.out (bel_al _ (.cells #[.int .i64 bk, .int .i64 bo, .int .i32 bn, .string (bs bx), .slice bA bm bc] 34)))
  have HX := Lib.hid (exprs_bel [a] ((w.alloc (.cells #[.int .i64 bk, .int .i64 bo, .int .i32 bn, .string (bs bx), .slice bA bm bc] 34)).alloc (.cells #[.int .i64 bk, .int .i64 bo, .int .i32 bn, .string (bs bx), .slice bA bm bc] 34)) 1000 (some ⟨w.heap.size + 1, 0, none⟩) 1 1 (one_sl bk bo bn bx bA bm bc (heap_at (by simp)) (re_bel HR.out HB2.out)) hrgs (by simp))
  clear hG hr
  go_enter Tryz.func6, Tryz.ntmps6
  go_wp2_with fail
  refine HX.out.mono ?_
  rintro e w3 ⟨rfl, hb3⟩
  obtain ⟨_, _, _, k3⟩ := loc_keep (q := w.heap.size) (gb_below hb3 (some (w.heap.size + 10))) (heap_old (by simp) (heap_alloc_new _ _)) (by omega)
  have HB3 := Lib.hid (seq HB2.out hb3)
  have hz3 := HB3.out.size
  obtain ⟨v, hv⟩ : ∃ v, cntL [a] 1000 0 = v := ⟨_, rfl⟩
  rw [hv]
  clear hb3 hv
  by_cases hc : 1000 < v
  · go_wp2_with fail
    refine (awake_any _ (HG.out.bel HB3.out)).mono ?_
    rintro e w9 ⟨rfl, hb9⟩
    have HB9 := Lib.hid (seq HB3.out hb9)
    clear hb9
    go_wp2
    go_ret
    exact ⟨rfl, HB9.out⟩
  have hcd : decide ((1000 : Int) < v) = false := by simp; omega
  obtain ⟨te, ee, hte⟩ : ∃ te ee, textE a = (te, ee) := ⟨_, _, rfl⟩
  have H29 := Lib.hid (exprText_29 a w3 bk bo bn bx bA bm bc (HG.out.bel HB3.out) (re_bel HR.out HB3.out) hg)
  rw [hte] at H29
  go_wp2_with fail
  refine H29.out.mono ?_
  rintro e w5 ⟨rfl, hb5⟩
  obtain ⟨_, _, _, k5⟩ := loc_keep (q := w.heap.size) (gb_below hb5 (some (w.heap.size + 10))) k3 (by omega)
  have HB5 := Lib.hid (seq HB3.out hb5)
  have H30 := Lib.hid (refText_30 a w5 bk bo bn bx bA bm bc (re_bel HR.out HB5.out) hg)
  rw [hte] at H30
  clear hb5 H29 hte
  go_wp2_with fail
  refine H30.out.mono ?_
  rintro e w6 ⟨rfl, hb6⟩
  have HB6 := Lib.hid (seq HB5.out hb6)
  have e4 : ((bs te).toList == (bs te).toList) = true := by simp
  have e5 : (ee == ee) = true := by simp
  clear hb6 H30
  go_wp2_with fail
  refine (awake_any _ (HG.out.bel HB6.out)).mono ?_
  rintro e w9 ⟨rfl, hb9⟩
  have HB9 := Lib.hid (seq HB6.out hb9)
  clear hb9
  go_wp2
  go_ret
  exact ⟨rfl, HB9.out⟩
end Go.Proofs.YtbkhnilbgocpnaaGreatDoor.SynC
