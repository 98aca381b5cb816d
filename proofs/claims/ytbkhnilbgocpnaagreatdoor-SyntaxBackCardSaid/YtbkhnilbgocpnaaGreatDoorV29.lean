import Derived.Test.YtbkhnilbgocpnaaGreatDoorV28
import Derived.Test.YtbkhnilbgocpnaaGreatDoorV25
import Derived.Test.YtbkhnilbgocpnaaGreatDoorV26
set_option linter.unusedVariables false
set_option linter.unusedSimpArgs false
namespace Go.Proofs.YtbkhnilbgocpnaaGreatDoor.SynC
open Go.Proofs.YtbkhnilbgocpnaaGreatDoor.LexC
open Go Go.ChangeShapes Go.WideShapes Go.ChangeAt Go.RowKit Go.Deep

theorem back_expr {a : Ex} (hv : validE a = true) (h4 : (wriE a).length ≤ 4000) : exprM (wriE a) = (a, 0, 0) := by
  have hv' := hv
  unfold validE fitE at hv
  simp only [Bool.and_eq_true] at hv
  have hok := hv.1.1
  have hg : GoodKs (tE dgL a) := good_E a (by rw [← nm_eq]; exact hok)
  obtain ⟨M, hM, hk⟩ := txt_back hg
  have hpe : PE (.ex 1) (tE dgL a) = .ok a [] := by
    have hb := back_E _ dgL a hok [] (fun t q e => by cases e)
    rw [List.append_nil] at hb
    exact lift (by omega) hb (fun k _ _ t q e => by cases e)
  have hp : parseM (Ex.mk 0 0 0 [] []) (PE (.ex 1)) (wriE a) = (a, 0, 0) := by
    unfold parseM
    rw [if_neg (by omega), show sc (wriE a) 0 = (M, none) from hM]
    simp only
    unfold outM
    rw [show M.map SynC.key = _ from hk, hpe]
    rfl
  unfold exprM
  simp only
  rw [hp]
  simp [hv']
end Go.Proofs.YtbkhnilbgocpnaaGreatDoor.SynC
namespace Go.Proofs.YtbkhnilbgocpnaaGreatDoor.SynC
open Go.Proofs.YtbkhnilbgocpnaaGreatDoor.LexC
open Go Go.ChangeShapes Go.WideShapes Go.ChangeAt Go.RowKit Go.Deep

theorem textP_bad {q : Pg} (h : validP q = false) : textP q = ([], 1) := by unfold textP; rw [h]; rfl
theorem textE_ok {a : Ex} (h : validE a = true) : textE a = (wriE a, 0) := by unfold textE; rw [h]; rfl
theorem textE_bad {a : Ex} (h : validE a = false) : textE a = ([], 1) := by unfold textE; rw [h]; rfl
theorem exprs_bel (l : List Ex) (w : World) (most : Int) (A : Option Addr) (m c : Nat) (hs : SlE w (fun g => g < w.heap.size) (.slice A m c) l) (hg : rgEs l) (hll : l.length ≤ 1125899906842624) :
    Calls Tryz.prog 28 #[.slice A m c, .int .i64 most] w fun e' w' => e' = .returned (.int .i64 (cntL l most 0)) ∧ Below w.heap.size w w' :=
  (exprs_28 l w most A m c hs hg hll).mono fun e' w' ⟨h, n, hw⟩ => ⟨h, by rw [hw]; exact below_drewN (Below.refl _ _) n⟩
theorem one_sl {w : World} {nb : Nat} {fr : Nat × Nat} (ak ao an : Int) (ax : List UInt8) (aA : Option Addr) (am ac : Nat) {a : Ex} (hq : w.heap[nb]? = some (.cells #[.int .i64 ak, .int .i64 ao, .int .i32 an, .string (bs ax), .slice aA am ac] 34 fr)) (ha : RE w (fun g => g < w.heap.size) [.int .i64 ak, .int .i64 ao, .int .i32 an, .string (bs ax), .slice aA am ac] a) :
    SlE w (fun g => g < w.heap.size) (.slice (some ⟨nb, 0, none⟩) 1 1) [a] :=
  (sl_one (h := 0) ak ao an ax aA am ac hq (Nat.zero_le _) (RE.keeps (fun _ _ _ hu => hu) (fun _ hb => ⟨Nat.zero_le _, hb⟩) _ _ ha)).keeps (fun _ _ _ hu => hu) (fun _ hb => hb.2)
theorem validP_fit {q : Pg} (h : validP q = true) : fitP q = true := by unfold validP at h; rw [Bool.and_eq_true] at h; exact h.1
set_option maxRecDepth 100000 in
set_option maxHeartbeats 2000000 in
theorem back_walk (q : Pg) (a : Ex) (w : World) (A : Option Addr) (m c : Nat) (B : Option Addr) (mb cb : Nat) (bk bo bn : Int) (bx : List UInt8) (bA : Option Addr) (bm bc : Nat) (hG : Gl w) (hp : PgAr w A m c B mb cb q) (hr : RE w (fun g => g < w.heap.size) [.int .i64 bk, .int .i64 bo, .int .i32 bn, .string (bs bx), .slice bA bm bc] a) (hg : rgE a) :
    Calls Tryz.prog 7 #[.agg #[.slice A m c, .slice B mb cb], .agg #[.int .i64 bk, .int .i64 bo, .int .i32 bn, .string (bs bx), .slice bA bm bc]] w fun e w' => e = .returned (.bool true) ∧ Below w.heap.size w w' := by
  have HG := Lib.hid hG
  have HP := Lib.hid hp
  have HR := Lib.hid hr
  have HW0 := Lib.hid (seq (bel_al w (.cells #[.slice A m c, .slice B mb cb] 26)) (bel_al _ (.cells #[.int .i64 bk, .int .i64 bo, .int .i32 bn, .string (bs bx), .slice bA bm bc] 34)))
  have hrgs : rgEs [a] := ⟨hg, trivial⟩
  clear hG hp hr
  go_enter Tryz.func7, Tryz.ntmps7
  go_wp2_with fail
  refine (great_21 q _ A m c B mb cb (HP.out.below HW0.out)).mono ?_
  rintro e w1 ⟨⟨g, rfl, hgr⟩, hb1⟩
  obtain ⟨_, _, _, l1⟩ := loc_keep (q := w.heap.size) (gb_below hb1 (some (w.heap.size + 10))) (heap_old (by simp) (heap_alloc_new _ _)) (by omega)
  obtain ⟨_, _, _, k1⟩ := loc_keep (q := w.heap.size + 1) (gb_below hb1 (some (w.heap.size + 10))) (heap_at (by simp)) (by omega)
  have HB1 := Lib.hid (seq HW0.out hb1)
  have hz1 : w.heap.size + 2 ≤ w1.heap.size := by have := hb1.size; simpa using this
  clear hb1
  cases g
  rotate_left 1
  · clear hgr
    go_wp2_with fail
    refine (awake_any _ (HG.out.bel HB1.out)).mono ?_
    rintro e w9 ⟨rfl, hb9⟩
    have HB9 := Lib.hid (seq HB1.out hb9)
    clear hb9
    go_wp2
    go_ret
    exact ⟨rfl, HB9.out⟩
  have hsm : fitP q = true → q.fns.length + q.krs.length ≤ 4001 := fun hf => by have := hgr rfl hf; omega
  clear hgr
  have HB2 := Lib.hid (seq HB1.out (bel_al w1 (.cells #[.int .i64 bk, .int .i64 bo, .int .i32 bn, .string (bs bx), .slice bA bm bc] 34)))
  have HX := Lib.hid (exprs_bel [a] (w1.alloc (.cells #[.int .i64 bk, .int .i64 bo, .int .i32 bn, .string (bs bx), .slice bA bm bc] 34)) 1000 _ 1 1 (one_sl bk bo bn bx bA bm bc (heap_alloc_new _ _) (re_bel HR.out HB2.out)) hrgs (by simp))
  go_wp2_with fail
  refine HX.out.mono ?_
  rintro e w3 ⟨rfl, hb3⟩
  obtain ⟨_, _, _, l3⟩ := loc_keep (q := w.heap.size) (gb_below hb3 (some (w.heap.size + w1.heap.size + 10))) (heap_old (by omega) l1) (by omega)
  obtain ⟨_, _, _, k3⟩ := loc_keep (q := w.heap.size + 1) (gb_below hb3 (some (w.heap.size + w1.heap.size + 10))) (heap_old (by omega) k1) (by omega)
  have HB3 := Lib.hid (seq HB2.out hb3)
  have hz3 : w.heap.size + 2 ≤ w3.heap.size := by have := hb3.size; simp only [sz_al] at this; omega
  obtain ⟨v, hv⟩ : ∃ v, cntL [a] 1000 0 = v := ⟨_, rfl⟩
  rw [hv]
  clear hb3 hv
  by_cases hc : 1000 < v
  · skip
    go_wp2_with fail
    refine (awake_any _ (HG.out.bel HB3.out)).mono ?_
    rintro e w9 ⟨rfl, hb9⟩
    have HB9 := Lib.hid (seq HB3.out hb9)
    clear hb9
    go_wp2
    go_ret
    exact ⟨rfl, HB9.out⟩
  have hcd : decide ((1000 : Int) < v) = false := by simp; omega
  go_wp2_with fail
  refine (text_ar q _ A m c B mb cb (HG.out.bel HB3.out) (HP.out.below HB3.out) hsm).mono ?_
  rintro e w4 ⟨rfl, hb4⟩
  obtain ⟨_, _, _, l4⟩ := loc_keep (q := w.heap.size) (gb_below hb4 (some (w.heap.size + w3.heap.size + 10))) l3 (by omega)
  obtain ⟨_, _, _, k4⟩ := loc_keep (q := w.heap.size + 1) (gb_below hb4 (some (w.heap.size + w3.heap.size + 10))) k3 (by omega)
  have HB4 := Lib.hid (seq HB3.out hb4)
  have hz4 := hb4.size
  obtain ⟨tp, ep, htp⟩ : ∃ tp ep, textP q = (tp, ep) := ⟨_, _, rfl⟩
  rw [htp]
  clear hb4
  go_wp2_with fail
  refine (exprText_29 a _ bk bo bn bx bA bm bc (HG.out.bel HB4.out) (re_bel HR.out HB4.out) hg).mono ?_
  rintro e w5 ⟨rfl, hb5⟩
  obtain ⟨_, _, _, l5⟩ := loc_keep (q := w.heap.size) (gb_below hb5 (some (w.heap.size + w4.heap.size + 10))) l4 (by omega)
  obtain ⟨_, _, _, k5⟩ := loc_keep (q := w.heap.size + 1) (gb_below hb5 (some (w.heap.size + w4.heap.size + 10))) k4 (by omega)
  have HB5 := Lib.hid (seq HB4.out hb5)
  have hz5 := hb5.size
  obtain ⟨te, ee, hte⟩ : ∃ te ee, textE a = (te, ee) := ⟨_, _, rfl⟩
  rw [hte]
  clear hb5
  cases hv : validP q
  · rw [textP_bad hv] at htp
    obtain ⟨rfl, rfl⟩ := Prod.mk.inj htp
    have HV := Lib.hid (valid_ar q w5 A m c B mb cb (HG.out.bel HB5.out) (HP.out.below HB5.out) hsm)
    rw [hv] at HV
    clear hv
    go_wp2_with fail
    refine HV.out.mono ?_
    rintro e w6 ⟨rfl, hb6⟩
    obtain ⟨_, _, _, l6⟩ := loc_keep (q := w.heap.size) (gb_below hb6 (some (w.heap.size + w5.heap.size + 10))) l5 (by omega)
    obtain ⟨_, _, _, k6⟩ := loc_keep (q := w.heap.size + 1) (gb_below hb6 (some (w.heap.size + w5.heap.size + 10))) k5 (by omega)
    have HB6 := Lib.hid (seq HB5.out hb6)
    have hz6 := hb6.size
    clear hb6
    cases he : validE a
    · rw [textE_bad he] at hte
      obtain ⟨rfl, rfl⟩ := Prod.mk.inj hte
      clear he
      go_wp2_with fail
      refine (awake_any _ (HG.out.bel HB6.out)).mono ?_
      rintro e w9 ⟨rfl, hb9⟩
      have HB9 := Lib.hid (seq HB6.out hb9)
      clear hb9
      go_wp2
      go_ret
      exact ⟨rfl, HB9.out⟩
    · rw [textE_ok he] at hte
      obtain ⟨rfl, rfl⟩ := Prod.mk.inj hte
      by_cases h4 : (wriE a).length ≤ 4000
      · have hs4 : (bs (wriE a)).size ≤ maxLen := by rw [bs_size]; unfold maxLen; omega
        have hd4 : decide (((bs (wriE a)).size : Int) ≤ 4000) = true := by rw [bs_size]; simp; omega
        have HE := Lib.hid (expr_ex (bs (wriE a)) hs4 a 0 0 (by rw [bs_toList]; exact back_expr he h4) _ (HG.out.bel HB6.out))
        clear he h4 hs4
        go_wp2_with fail
        refine HE.out.mono ?_
        rintro e w7 ⟨⟨yk, yo, yn, yx, yA, ym, yc, rfl, hr7, hg7⟩, hb7⟩
        obtain ⟨_, _, _, k7⟩ := loc_keep (q := w.heap.size + 1) (gb_below hb7 (some (w.heap.size + w6.heap.size + 10))) k6 (by omega)
        have HB7 := Lib.hid (seq HB6.out hb7)
        have HR7 := Lib.hid hr7
        have hz7 := HB7.out.size
        have HA7 := Lib.hid (bel_al w7 (.cells #[.int .i64 yk, .int .i64 yo, .int .i32 yn, .string (bs yx), .slice yA ym yc] 34))
        clear hr7 hb7
        go_wp2_with fail
        refine (sm_all a _ _ _ _ _ _ _ _ _ _ _ _ _ _ _ (re_bel HR.out (seq HB7.out HA7.out)) (re_bel HR7.out HA7.out) hg).mono ?_
        rintro e w8 ⟨rfl, hb8⟩
        have HB8 := Lib.hid (seq (seq HB7.out HA7.out) hb8)
        clear hb8
        go_wp2_with fail
        refine (awake_any _ (HG.out.bel HB8.out)).mono ?_
        rintro e w9 ⟨rfl, hb9⟩
        have HB9 := Lib.hid (seq HB8.out hb9)
        clear hb9
        go_wp2
        go_ret
        exact ⟨rfl, HB9.out⟩
      · have hd4 : decide (((bs (wriE a)).size : Int) ≤ 4000) = false := by rw [bs_size]; simp; omega
        clear he h4
        go_wp2_with fail
        refine (awake_any _ (HG.out.bel HB6.out)).mono ?_
        rintro e w9 ⟨rfl, hb9⟩
        have HB9 := Lib.hid (seq HB6.out hb9)
        clear hb9
        go_wp2
        go_ret
        exact ⟨rfl, HB9.out⟩
  · rw [textP_ok hv] at htp
    obtain ⟨rfl, rfl⟩ := Prod.mk.inj htp
    have HV := Lib.hid (valid_ar q w5 A m c B mb cb (HG.out.bel HB5.out) (HP.out.below HB5.out) hsm)
    rw [hv] at HV
    have HV2 := Lib.hid hv
    have HI := Lib.hid (fun w2 (h : Below w.heap.size w w2) => (HP.out.below h).in_ (hsm (validP_fit hv)))
    clear hv
    go_wp2_with fail
    refine HV.out.mono ?_
    rintro e w6 ⟨rfl, hb6⟩
    obtain ⟨_, _, _, l6⟩ := loc_keep (q := w.heap.size) (gb_below hb6 (some (w.heap.size + w5.heap.size + 10))) l5 (by omega)
    obtain ⟨_, _, _, k6⟩ := loc_keep (q := w.heap.size + 1) (gb_below hb6 (some (w.heap.size + w5.heap.size + 10))) k5 (by omega)
    have HB6 := Lib.hid (seq HB5.out hb6)
    have hz6 := hb6.size
    clear hb6
    go_wp2_with fail
    refine (parse_back q HV2.out _ (HG.out.bel HB6.out)).mono ?_
    rintro e wA ⟨⟨A2, m2, c2, B2, mb2, cb2, rfl, hpA⟩, hbA⟩
    obtain ⟨_, _, _, lA⟩ := loc_keep (q := w.heap.size) (gb_below hbA (some (w.heap.size + w6.heap.size + 10))) l6 (by omega)
    obtain ⟨_, _, _, kA⟩ := loc_keep (q := w.heap.size + 1) (gb_below hbA (some (w.heap.size + w6.heap.size + 10))) k6 (by omega)
    have HBA := Lib.hid (seq HB6.out hbA)
    have HPA := Lib.hid hpA
    have hzA := hbA.size
    have HAA := Lib.hid (bel_al wA (.cells #[.slice A2 m2 c2, .slice B2 mb2 cb2] 26))
    clear hbA hpA
    go_wp2_with fail
    refine (same_17 q _ A m c B mb cb A2 m2 c2 B2 mb2 cb2 (HI.out _ (seq HBA.out HAA.out)) (HPA.out.below HAA.out)).mono ?_
    rintro e wC ⟨rfl, hbC⟩
    obtain ⟨_, _, _, lC⟩ := loc_keep (q := w.heap.size) (gb_below hbC (some (w.heap.size + wA.heap.size + 10))) (heap_old (by omega) lA) (by omega)
    obtain ⟨_, _, _, kC⟩ := loc_keep (q := w.heap.size + 1) (gb_below hbC (some (w.heap.size + wA.heap.size + 10))) (heap_old (by omega) kA) (by omega)
    have HBC := Lib.hid (seq (seq HBA.out HAA.out) hbC)
    have hzC := hbC.size
    simp only [sz_al] at hzC
    clear hbC
    cases he : validE a
    · rw [textE_bad he] at hte
      obtain ⟨rfl, rfl⟩ := Prod.mk.inj hte
      clear he
      go_wp2_with fail
      refine (awake_any _ (HG.out.bel HBC.out)).mono ?_
      rintro e w9 ⟨rfl, hb9⟩
      have HB9 := Lib.hid (seq HBC.out hb9)
      clear hb9
      go_wp2
      go_ret
      exact ⟨rfl, HB9.out⟩
    · rw [textE_ok he] at hte
      obtain ⟨rfl, rfl⟩ := Prod.mk.inj hte
      by_cases h4 : (wriE a).length ≤ 4000
      · have hs4 : (bs (wriE a)).size ≤ maxLen := by rw [bs_size]; unfold maxLen; omega
        have hd4 : decide (((bs (wriE a)).size : Int) ≤ 4000) = true := by rw [bs_size]; simp; omega
        have HE := Lib.hid (expr_ex (bs (wriE a)) hs4 a 0 0 (by rw [bs_toList]; exact back_expr he h4) _ (HG.out.bel HBC.out))
        clear he h4 hs4
        go_wp2_with fail
        refine HE.out.mono ?_
        rintro e w7 ⟨⟨yk, yo, yn, yx, yA, ym, yc, rfl, hr7, hg7⟩, hb7⟩
        obtain ⟨_, _, _, k7⟩ := loc_keep (q := w.heap.size + 1) (gb_below hb7 (some (w.heap.size + wC.heap.size + 10))) kC (by omega)
        have HB7 := Lib.hid (seq HBC.out hb7)
        have HR7 := Lib.hid hr7
        have hz7 := HB7.out.size
        have HA7 := Lib.hid (bel_al w7 (.cells #[.int .i64 yk, .int .i64 yo, .int .i32 yn, .string (bs yx), .slice yA ym yc] 34))
        clear hr7 hb7
        go_wp2_with fail
        refine (sm_all a _ _ _ _ _ _ _ _ _ _ _ _ _ _ _ (re_bel HR.out (seq HB7.out HA7.out)) (re_bel HR7.out HA7.out) hg).mono ?_
        rintro e w8 ⟨rfl, hb8⟩
        have HB8 := Lib.hid (seq (seq HB7.out HA7.out) hb8)
        clear hb8
        go_wp2_with fail
        refine (awake_any _ (HG.out.bel HB8.out)).mono ?_
        rintro e w9 ⟨rfl, hb9⟩
        have HB9 := Lib.hid (seq HB8.out hb9)
        clear hb9
        go_wp2
        go_ret
        exact ⟨rfl, HB9.out⟩
      · have hd4 : decide (((bs (wriE a)).size : Int) ≤ 4000) = false := by rw [bs_size]; simp; omega
        clear he h4
        go_wp2_with fail
        refine (awake_any _ (HG.out.bel HBC.out)).mono ?_
        rintro e w9 ⟨rfl, hb9⟩
        have HB9 := Lib.hid (seq HBC.out hb9)
        clear hb9
        go_wp2
        go_ret
        exact ⟨rfl, HB9.out⟩
end Go.Proofs.YtbkhnilbgocpnaaGreatDoor.SynC
