import Derived.Test.YtdlfgfghjdobjaaFoldAlg
/- P1.5: the walk of the law of folds. -/
namespace Go.Proofs.Ytdlfgfghjdobjaa.Num
open Go.ChangeShapes Go.WideShapes Go.ChangeAt Go.RowKit

/-- An operator that does not fold. -/
theorem foldlaw_no (o : Int) (i : Nat) (hi : i < 20) (hf : fol i = false) (ho : o = (i : Int)) (a1 : Option Addr) (len1 cap1 : Nat) (a2 : Option Addr) (len2 cap2 : Nat) (x y z : Int) (w : World) :
    Calls Try.prog 10 #[.int .i64 o, .slice a1 len1 cap1, .slice a2 len2 cap2, .int .i32 x, .int .i32 y, .int .i32 z] w fun e w' => e = .returned (.bool true) ∧ Below w.heap.size w w' := by
  subst ho
  have C1 := rfolds_in i hi (i : Int) rfl
  have C2 := folds_in i hi (i : Int) rfl
  have C3 := fold_not i hi hf (i : Int) rfl a1 len1 cap1
  rw [hf] at C1 C2
  have H1 := Lib.hid C1
  have H2 := Lib.hid C2
  have H3 := Lib.hid C3
  clear C1 C2 C3 hf
  go_enter Try.func10, Try.ntmps10
  go_wp2_with fail
  refine (H1.out _).mono ?_
  rintro e w1 ⟨rfl, rfl⟩
  go_wp2_with fail
  refine (H3.out _).mono ?_
  rintro e w2 ⟨rfl, h2⟩
  go_wp2_with fail
  refine (H2.out _).mono ?_
  rintro e w3 ⟨rfl, h3⟩
  go_wp2_with fail
  refine (awake_ _).mono ?_
  rintro e w4 ⟨rfl, h4⟩
  go_wp2
  go_ret
  exact ⟨rfl, seq (seq h2 h3) h4⟩
theorem foldlaw_out (o : Int) (h : o < 0 ∨ 20 ≤ o) (a1 : Option Addr) (len1 cap1 : Nat) (a2 : Option Addr) (len2 cap2 : Nat) (x y z : Int) (w : World) :
    Calls Try.prog 10 #[.int .i64 o, .slice a1 len1 cap1, .slice a2 len2 cap2, .int .i32 x, .int .i32 y, .int .i32 z] w fun e w' => e = .returned (.bool true) ∧ Below w.heap.size w w' := by
  have H1 := Lib.hid (rfolds_out o h)
  have H2 := Lib.hid (folds_out o h)
  have H3 := Lib.hid (fold_out o h a1 len1 cap1)
  clear h
  go_enter Try.func10, Try.ntmps10
  go_wp2_with fail
  refine (H1.out _).mono ?_
  rintro e w1 ⟨rfl, rfl⟩
  go_wp2_with fail
  refine (H3.out _).mono ?_
  rintro e w2 ⟨rfl, h2⟩
  go_wp2_with fail
  refine (H2.out _).mono ?_
  rintro e w3 ⟨rfl, h3⟩
  go_wp2_with fail
  refine (awake_ _).mono ?_
  rintro e w4 ⟨rfl, h4⟩
  go_wp2
  go_ret
  exact ⟨rfl, seq (seq h2 h3) h4⟩

/-- The shape of a slice of the call's own. -/
theorem own_shape {w : World} {base n : Nat} {v : Value} {L : List (BitVec 32)} (h : w.ownsRow base 21 1 v n (cellsOf L)) : ∃ A C, v = .slice A L.length C ∧ (0 < L.length → ∃ g, A = some ⟨g, 0, none⟩) := by
  have hl : L.length = n := by have := h.1; rw [cellsOf_length] at this; omega
  rcases h.2 with ⟨hv, hn⟩ | ⟨g, cap, cur, hv, _⟩
  · exact ⟨none, 0, by rw [hv, hl, hn], fun h0 => by omega⟩
  · exact ⟨some ⟨g, 0, none⟩, cap, by rw [hv, hl], fun _ => ⟨g, rfl⟩⟩
theorem own_join {w : World} {base : Nat} {v : Value} {La Lb N : List (BitVec 32)} (hN : N = La ++ Lb) (h : w.ownsRow base 21 1 v (0 + La.length + Lb.length) (cellsOf ([] ++ La ++ Lb))) : w.ownsRow base 21 1 v N.length (cellsOf N) := by
  subst hN; simpa using h
theorem rd_one (w : World) (x : BitVec 32) : Rd (w.alloc (.cells #[.int .i32 (sI x)] 21)) (.slice (some ⟨w.heap.size, 0, none⟩) 1 1) [x] :=
  Rd.own (World.ownsRow_lit (base := 0) (e := 21) (size := 1) w #[.int .i32 (sI x)] 1 (Nat.zero_le _) (by decide) rfl)
theorem rd_nil (w : World) : Rd w (.slice none 0 0) [] := .inl ⟨rfl, rfl⟩
theorem rev_take (N : List (BitVec 32)) (k : Nat) (h : k < N.length) : N.reverse.take (k + 1) = N.reverse.take k ++ [N.getD (N.length - 1 - k) 0#32] := by
  rw [List.take_succ_eq_append_getElem (by simpa using h)]
  congr 2
  rw [List.getElem_reverse]
  simp [List.getD, List.getElem?_eq_getElem (show N.length - 1 - k < N.length by omega)]

set_option maxRecDepth 100000 in
set_option maxHeartbeats 1600000 in
theorem foldlaw_yes (i : Nat) (hi : i < 20) (hf : fol i = true) (V1 V2 : Value) (La Lb : List (BitVec 32)) (X Y Z : BitVec 32) (w : World) (hla : La.length ≤ 1048576) (hlb : Lb.length ≤ 1048576) (ha : Rd w V1 La) (hb : Rd w V2 Lb) :
    Calls Try.prog 10 #[.int .i64 (i : Int), V1, V2, .int .i32 (sI X), .int .i32 (sI Y), .int .i32 (sI Z)] w fun e w' => e = .returned (.bool true) ∧ Below w.heap.size w w' := by
  have t1 := bne_of (fol_left i hi hf X)
  have t2 := bne_of (fol_right i hi hf X)
  have t3 := bne_of (comm_of i hi (com_fol i hi hf) X Y)
  have t4 := bne_of (fol_assoc i hi hf X Y Z)
  obtain ⟨N, hN⟩ : ∃ N, N = La ++ Lb := ⟨_, rfl⟩
  have hlN : N.length = La.length + Lb.length := by rw [hN]; simp
  have hlN' : N.length ≤ 2097152 := by omega
  have t5 := beq_of (foldB_append i hi hf La Lb)
  have t6 := beq_of (foldB_reverse i hi hf N).symm
  rw [← hN] at t5
  have HN := Lib.hid hN
  have HlN := Lib.hid hlN
  clear hN hlN
  have C1 := rfolds_in i hi (i : Int) rfl
  have C2 := neutral_in i hi hf (i : Int) rfl
  have C3 := commutes_in i hi (i : Int) rfl
  rw [hf] at C1
  rw [com_fol i hi hf] at C3
  rw [neu_sI i hi hf] at C2
  have H1 := Lib.hid C1
  have H2 := Lib.hid C2
  have H3 := Lib.hid C3
  have HF := Lib.hid (fold_rd i hi hf (i : Int) rfl)
  have HA := Lib.hid ha
  have HB := Lib.hid hb
  clear C1 C2 C3 hf ha hb
  go_enter Try.func10, Try.ntmps10
  go_wp2_with fail
  refine (H1.out _).mono ?_
  rintro e w1 ⟨rfl, rfl⟩
  go_wp2_with fail
  refine (H2.out _).mono ?_
  rintro e w2 ⟨rfl, h2⟩
  go_wp2_with fail
  refine (do_at i hi (neuB i) (X) i rfl _ _ rfl rfl _).mono ?_
  rintro e w3 ⟨rfl, h3⟩
  go_wp2_with fail
  refine (do_at i hi (X) (neuB i) i rfl _ _ rfl rfl _).mono ?_
  rintro e w4 ⟨rfl, h4⟩
  go_wp2_with fail
  refine (do_at i hi (X) (Y) i rfl _ _ rfl rfl _).mono ?_
  rintro e w5 ⟨rfl, h5⟩
  go_wp2_with fail
  refine (do_at i hi (Y) (X) i rfl _ _ rfl rfl _).mono ?_
  rintro e w6 ⟨rfl, h6⟩
  go_wp2_with fail
  refine (do_at i hi (X) (Y) i rfl _ _ rfl rfl _).mono ?_
  rintro e w7 ⟨rfl, h7⟩
  go_wp2_with fail
  refine (do_at i hi (binF i X Y) (Z) i rfl _ _ rfl rfl _).mono ?_
  rintro e w8 ⟨rfl, h8⟩
  go_wp2_with fail
  refine (do_at i hi (Y) (Z) i rfl _ _ rfl rfl _).mono ?_
  rintro e w9 ⟨rfl, h9⟩
  go_wp2_with fail
  refine (do_at i hi (X) (binF i Y Z) i rfl _ _ rfl rfl _).mono ?_
  rintro e w10 ⟨rfl, h10⟩
  have g1 := seq (seq (seq (seq (seq (seq (seq (seq h2 h3) h4) h5) h6) h7) h8) h9) h10
  have RA := Lib.hid (Rd.below HA.out g1)
  have RB := Lib.hid (Rd.below HB.out g1)
  clear h2 h3 h4 h5 h6 h7 h8 h9 h10 HA HB
  go_wp2_with (first
    | (at_builtin; refine wpList_append_rd rfl (.tmp 98) (.tmp 99) rfl w10.heap.size _ 0 [] La rfl (World.ownsRow_lit w10 #[] 0 (Nat.le_refl _) (by decide) rfl) V1 rfl (Rd.below RA.out ((Below.refl _ _).alloc (Nat.le_refl _) _)) (by omega) (by simp) ?_; intro va wa hva hwa)
    | (at_builtin; refine wpList_append_rd rfl (.tmp 100) (.tmp 101) rfl w10.heap.size va _ _ Lb rfl hva V2 rfl (Rd.below RB.out (((Below.refl _ _).alloc (Nat.le_refl _) _).trans hwa)) (by omega) (Nat.le_trans (by simp) hwa.size) ?_; intro vb wb hvb0 hwb; have hvb := own_join HN.out hvb0; clear hvb0; obtain ⟨A, C, hvA, hA⟩ := own_shape hvb; subst hvA))
  have g2 : Below w10.heap.size w10 wb := (((Below.refl _ _).alloc (Nat.le_refl _) _).trans hwa).trans hwb
  have RN := Lib.hid (Rd.own hvb)
  have RA1 := Lib.hid (Rd.below RA.out g2)
  have RB1 := Lib.hid (Rd.below RB.out g2)
  have g3 := seq g1 g2
  clear hva hwa hwb g2 RA RB g1
  by_cases h0 : 0 < N.length
  · obtain ⟨g, rfl⟩ := hA h0
    have hlt := hvb.lt g rfl
    have hcell : ∀ j, j < N.length → wb.cell? ⟨g, j, none⟩ = some (.int .i32 (sI (N.getD j 0#32))) := fun j hj => by
      have e := hvb.cells (g := g) rfl j _ (cellsOf_get N j hj)
      rw [Addr.add_mid, Nat.zero_add] at e
      exact e
    go_loopw [18, 19] (fun v t wr => ∃ k : Nat, k ≤ N.length ∧ t = .int .i64 ((N.length : Int) - 1 - k) ∧ wr.ownsRow wb.heap.size 21 1 v k (cellsOf (N.reverse.take k)) ∧ Below wb.heap.size wb wr) (fun _ t _ => (intOf t + 1).toNat)
    case atStart => exact ⟨0, Nat.zero_le _, by simp, World.ownsRow_nil _ _ _ _, Below.refl _ _⟩
    case round =>
      obtain ⟨k, hk, rfl, hown, hbr⟩ := hrel
      by_cases hkl : k < N.length
      · have hx : wr.cell? ⟨g, N.length - 1 - k, none⟩ = some (.int .i32 (sI (N.getD (N.length - 1 - k) 0#32))) := (hbr.cell (p := ⟨g, N.length - 1 - k, none⟩) hlt.2).trans (hcell _ (by omega))
        have HT := Lib.hid (rev_take N k hkl)
        revert hx HT
        generalize N.getD (N.length - 1 - k) 0#32 = x
        intro hx HT
        clear hcell
        go_wp2_with (at_builtin; refine wpList_append_rd rfl (.tmp 110) (.tmp 115) rfl wb.heap.size _ k _ [x] rfl (hown.alloc _) _ rfl (rd_one wr x) (by simp; omega) (by have := hbr.size; simp; omega) ?_; intro v1 w11 hv1 hw11)
        have hv2 : w11.ownsRow wb.heap.size 21 1 v1 (k + 1) (cellsOf (N.reverse.take (k + 1))) := by rw [HT.out]; exact hv1
        have hb2 : Below wb.heap.size wb w11 := (hbr.alloc hbr.size _).trans hw11
        have HV := Lib.hid hv2
        clear hv1 hw11 hv2 hown hbr hx
        go_wp2
        go_roundw
        case rel => exact ⟨k + 1, by omega, by go_num, HV.out, hb2⟩
        case measure => simp [intOf]; omega
      · obtain rfl : k = N.length := by omega
        have ht : N.reverse.take N.length = N.reverse := List.take_of_length_le (by simp)
        rw [ht] at hown
        have HB := Lib.hid (Rd.own hown)
        clear ht hown hcell
        go_wp2_with fail
        refine (HF.out V1 La _ (by unfold maxLen; omega) (Rd.below RA1.out hbr)).mono ?_
        rintro e z1 ⟨rfl, q1⟩
        go_wp2_with fail
        refine (HF.out V2 Lb _ (by unfold maxLen; omega) (Rd.below (Rd.below RB1.out hbr) q1)).mono ?_
        rintro e z2 ⟨rfl, q2⟩
        go_wp2_with fail
        refine (HF.out _ N _ (by unfold maxLen; omega) (Rd.below (Rd.below (Rd.below RN.out hbr) q1) q2)).mono ?_
        rintro e z3 ⟨rfl, q3⟩
        go_wp2_with fail
        refine (HF.out _ N.reverse _ (by simp; unfold maxLen; omega) (Rd.below (Rd.below (Rd.below HB.out q1) q2) q3)).mono ?_
        rintro e z4 ⟨rfl, q4⟩
        go_wp2_with fail
        refine (do_at i hi (foldB i La) (foldB i Lb) i rfl _ _ rfl rfl _).mono ?_
        rintro e z5 ⟨rfl, q5⟩
        go_wp2_with fail
        refine (H3.out _).mono ?_
        rintro e z6 ⟨rfl, q6⟩
        go_wp2_with fail
        refine (awake_ _).mono ?_
        rintro e z7 ⟨rfl, q7⟩
        go_wp2
        go_ret
        exact ⟨rfl, seq g3 (seq hbr (seq (seq (seq (seq (seq (seq q1 q2) q3) q4) q5) q6) q7))⟩
  · have hn : N = [] := List.eq_nil_of_length_eq_zero (by omega)
    subst hn
    clear hA h0 hvb
    refine wp_loop_rounds 1 ?_
    rw [rounds_succ]
    go_wp2_with fail
    refine (HF.out V1 La _ (by unfold maxLen; omega) (Rd.below RA1.out (Below.refl _ _))).mono ?_
    rintro e z1 ⟨rfl, q1⟩
    go_wp2_with fail
    refine (HF.out V2 Lb _ (by unfold maxLen; omega) (Rd.below (Rd.below RB1.out (Below.refl _ _)) q1)).mono ?_
    rintro e z2 ⟨rfl, q2⟩
    go_wp2_with fail
    refine (HF.out _ [] _ (by unfold maxLen; simp) (Rd.below (Rd.below (Rd.below RN.out (Below.refl _ _)) q1) q2)).mono ?_
    rintro e z3 ⟨rfl, q3⟩
    go_wp2_with fail
    refine (HF.out _ [] _ (by unfold maxLen; simp) (Rd.below (Rd.below (Rd.below (rd_nil _) q1) q2) q3)).mono ?_
    rintro e z4 ⟨rfl, q4⟩
    go_wp2_with fail
    refine (do_at i hi (foldB i La) (foldB i Lb) i rfl _ _ rfl rfl _).mono ?_
    rintro e z5 ⟨rfl, q5⟩
    go_wp2_with fail
    refine (H3.out _).mono ?_
    rintro e z6 ⟨rfl, q6⟩
    go_wp2_with fail
    refine (awake_ _).mono ?_
    rintro e z7 ⟨rfl, q7⟩
    go_wp2
    go_ret
    exact ⟨rfl, seq g3 (seq (Below.refl _ _) (seq (seq (seq (seq (seq (seq q1 q2) q3) q4) q5) q6) q7))⟩

theorem foldlaw_walk (o : Int) (a1 : Option Addr) (len1 cap1 : Nat) (a2 : Option Addr) (len2 cap2 : Nat) (La Lb : List (BitVec 32)) (X Y Z : BitVec 32) (w : World) (hla : La.length ≤ 1048576) (hlb : Lb.length ≤ 1048576)
    (ha : Rd w (.slice a1 len1 cap1) La) (hb : Rd w (.slice a2 len2 cap2) Lb) :
    Calls Try.prog 10 #[.int .i64 o, .slice a1 len1 cap1, .slice a2 len2 cap2, .int .i32 (sI X), .int .i32 (sI Y), .int .i32 (sI Z)] w fun e w' => e = .returned (.bool true) ∧ Below w.heap.size w w' := by
  by_cases h : o < 0 ∨ 20 ≤ o
  · exact foldlaw_out o h _ _ _ _ _ _ _ _ _ w
  · obtain ⟨i, rfl⟩ : ∃ i : Nat, o = (i : Int) := ⟨o.toNat, by omega⟩
    cases hf : fol i
    · exact foldlaw_no _ i (by omega) hf rfl _ _ _ _ _ _ _ _ _ w
    · exact foldlaw_yes i (by omega) hf _ _ La Lb X Y Z w hla hlb ha hb
end Go.Proofs.Ytdlfgfghjdobjaa.Num
