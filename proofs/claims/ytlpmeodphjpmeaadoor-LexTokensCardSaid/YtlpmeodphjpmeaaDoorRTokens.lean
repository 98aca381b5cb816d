import Derived.Test.YtlpmeodphjpmeaaDoorOne
/- The reference's Tokens, out of a contract of its 'one'. -/
namespace Go.Proofs.YtlpmeodphjpmeaaDoor.Lex
open Go.ChangeShapes Go.WideShapes Go.ChangeAt Go.RowKit

/-- The contract of 'one'. -/
def OneAny : Prop := ∀ (s : ByteArray) (hs : s.size ≤ 100000) (i : Nat) (hi : i < s.size) (w : World),
    Calls Tryd.prog 29 #[.string s, .int .i64 (i : Nat)] w fun e w' => OnePost (tokenAt (s.data.toList.drop i)) i e ∧ Below w.heap.size w w'

theorem one_bad (H : OneAny) (s : ByteArray) (hs : s.size ≤ 100000) (i : Nat) (hi : i < s.size) (h : tokenAt (s.data.toList.drop i) = none) (w : World) :
    Calls Tryd.prog 29 #[.string s, .int .i64 (i : Nat)] w fun e w' => (∃ k p x n, e = .returned (.tuple #[.agg #[.int .i64 k, .int .i64 p, .string x, .int .i32 n], .bool false])) ∧ Below w.heap.size w w' := by
  have := H s hs i hi w
  rw [h] at this
  exact this
theorem one_good (H : OneAny) (s : ByteArray) (hs : s.size ≤ 100000) (i : Nat) (hi : i < s.size) (t : Tok) (h : tokenAt (s.data.toList.drop i) = some t) (w : World) :
    Calls Tryd.prog 29 #[.string s, .int .i64 (i : Nat)] w fun e w' => e = .returned (.tuple #[.agg #[.int .i64 t.kind, .int .i64 (i : Nat), .string (bs t.text), .int .i32 t.num], .bool true]) ∧ Below w.heap.size w w' := by
  have := H s hs i hi w
  rw [h] at this
  exact this

theorem rtokens_long (s : ByteArray) (hs : s.size ≤ maxLen) (h : 4000 < s.size) (w : World) :
    Calls Tryd.prog 12 #[.string s] w fun e w' => e = .returned (.tuple #[.slice none 0 0, .int .i64 0, .int .i64 5]) ∧ Below w.heap.size w w' := by
  unfold maxLen at hs
  go_enter Tryd.func12, Tryd.ntmps12
  go_wp2
  go_ret3
  exact ⟨rfl, Below.refl _ _⟩

/-- The state of the loop. -/
def RLoopRel (s : ByteArray) (w : World) (k : Nat) (L : List Tok) (v : Value) (wr : World) : Prop :=
  OwnT wr w.heap.size v L ∧ Below w.heap.size w wr ∧ ScRel s.data.toList L k ∧ L.length ≤ k

set_option maxHeartbeats 4000000 in
theorem rtokens_short (H : OneAny) (s : ByteArray) (h4 : s.size ≤ 4000) (w : World) :
    Calls Tryd.prog 12 #[.string s] w fun e w' => TokPost s.data.toList e w' ∧ Below w.heap.size w w' := by
  have HH := Lib.hid H
  clear H
  have hd13 : decide ((4000 : Int) < s.size) = false := by simp; omega
  go_enter Tryd.func12, Tryd.ntmps12
  go_wp2
  clear hd13
  go_loopw [5, 6] (fun v i wr => ∃ (k : Nat) (L : List Tok), k ≤ s.size ∧ i = .int .i64 k ∧ RLoopRel s w k L v wr) (fun _ i _ => s.size - (intOf i).toNat)
  case atStart => exact ⟨0, [], Nat.zero_le _, rfl, OwnT.nil _ _, Below.refl _ _, ScRel.zero _, by simp⟩
  case round =>
    obtain ⟨k, L, hk, rfl, hr⟩ := hrel
    have HR := Lib.hid hr
    have hwr := hr.2.1.size
    have hLk := hr.2.2.2
    clear hr
    by_cases hks : k < s.size
    · by_cases h35 : (s[k].toNat : Int) = 35
      · have H35 := Lib.hid h35
        have hne : ((s[k].toNat : Int) == 35) = true := by rw [h35]; rfl
        clear h35
        obtain ⟨c, hc⟩ : ∃ c, cnt noE (s.data.toList.drop k) = c := ⟨_, rfl⟩
        have hcl : c ≤ s.size - k := by rw [← hc]; have := cnt_le noE (s.data.toList.drop k); rw [List.length_drop, size_toList] at this; exact this
        have hc1 : 1 ≤ c := by
          rw [← hc, drop_cons s k hks, cnt_cons_pos (by unfold noE noEN; rw [H35.out]; decide)]; omega
        have HC := Lib.hid hc
        clear hc
        go_wp2
        go_loop [6] (fun i => ∃ j : Nat, k + j ≤ s.size ∧ i = .int .i64 ((k + j : Nat) : Int) ∧ AllUp noE (s.data.toList.drop k) j) (fun i => s.size - (intOf i).toNat)
        case atStart => exact ⟨0, by omega, rfl, allUp_zero _ _⟩
        case round =>
          obtain ⟨j, hj, rfl, hall⟩ := hrel
          obtain ⟨p, hp⟩ : ∃ p, k + j = p := ⟨_, rfl⟩
          rw [hp] at hj ⊢
          have HP := Lib.hid hp
          have HA := Lib.hid hall
          clear hp hall
          by_cases hps : p < s.size
          · have hg : Hid ((s.data.toList.drop k)[j]? = some s[p]) := Lib.hid (by rw [List.getElem?_drop, HP.out]; exact get_toList s p hps)
            by_cases h10 : (s[p].toNat : Int) = 10
            · have H10 := Lib.hid h10
              have hne10 : ((s[p].toNat : Int) != 10) = false := by rw [h10]; rfl
              clear h10
              have hcp : Hid (k + c = p) := Lib.hid (by rw [← HC.out, HA.out.stop hg.out (by unfold noE noEN; rw [H10.out]; decide), HP.out])
              go_wp2
              go_roundw
              case rel => exact ⟨p, L, by omega, rfl, HR.out.1, HR.out.2.1, by
                have := HR.out.2.2.1.hash hks H35.out; rwa [HC.out, hcp.out] at this, by have := hcp.out; omega⟩
              case measure => simp [intOf]; have := hcp.out; omega
            · have hne10 : ((s[p].toNat : Int) != 10) = true := by simpa using h10
              have H10 := Lib.hid h10
              clear h10
              go_wp2
              go_round
              case rel => exact ⟨j + 1, by rw [← Nat.add_assoc, HP.out]; omega, by rw [← Nat.add_assoc, HP.out]; go_num, HA.out.step hg.out (by unfold noE noEN; simpa using H10.out)⟩
              case measure => simp [intOf]; omega
          · have hcp : Hid (k + c = p) := Lib.hid (by rw [← HC.out, HA.out.last (by rw [List.length_drop, size_toList]; have := HP.out; omega), HP.out])
            go_wp2
            go_roundw
            case rel => exact ⟨p, L, by omega, rfl, HR.out.1, HR.out.2.1, by
              have := HR.out.2.2.1.hash hks H35.out; rwa [HC.out, hcp.out] at this, by have := hcp.out; omega⟩
            case measure => simp [intOf]; have := hcp.out; omega
      · have H35 := Lib.hid h35
        have hne : ((s[k].toNat : Int) == 35) = false := by simpa using h35
        clear h35
        cases hbl : blkN (s[k].toNat : Int)
        · have HBL := Lib.hid hbl
          clear hbl
          cases ht : tokenAt (s.data.toList.drop k) with
          | none =>
            have HT := Lib.hid ht
            clear ht
            go_wp2_with (first | (go_at_call 28; refine (rblank_n _ _ HBL.out _).mono ?_; rintro e w' ⟨rfl, rfl⟩) | (go_at_call 29; refine (one_bad HH.out s (by omega) k hks HT.out _).mono ?_; rintro e w2 ⟨⟨tk, tp, tx, tn, rfl⟩, hb2⟩))
            go_ret3
            exact ⟨.inr ⟨k, HR.out.2.2.1.bad hks HBL.out H35.out HT.out, rfl⟩, (HR.out.2.1.trans (hb2.mono hwr)).alloc (Nat.le_trans hwr hb2.size) _⟩
          | some t =>
            have hm1 := tokenAt_len ht
            have hm2 := tokenAt_le ht
            rw [List.length_drop, size_toList] at hm2
            obtain ⟨m, hm⟩ : ∃ m, t.text.length = m := ⟨_, rfl⟩
            rw [hm] at hm1 hm2
            have hts : (bs t.text).size = m := (bs_size _).trans hm
            have HT := Lib.hid ht
            have HM := Lib.hid hm
            clear ht hm
            go_wp2_with (first | (go_at_call 28; refine (rblank_n _ _ HBL.out _).mono ?_; rintro e w' ⟨rfl, rfl⟩) | (go_at_call 29; refine (one_good HH.out s (by omega) k hks t HT.out _).mono ?_; rintro e w2 ⟨rfl, hb2⟩; have hz2 := hb2.size) | (refine wpList_append_tok rfl _ _ rfl w.heap.size u5 L { t with pos := (k : Int) } rfl ((HR.out.1.below hb2).below ((Below.refl _ _).alloc (Nat.le_refl _) _)) (w2.heap.size + 1) (by simp) rfl (by omega) (by simp; omega) ?_; intro v' w4 hown4 hbel4 hblk hsz4; have hc4 := tok_cell hblk HR.out.1 hz2; have HO4 := Lib.hid hown4; have HB4 := Lib.hid hbel4; clear hown4 hbel4 hblk hsz4))
            go_roundw
            case rel => exact ⟨k + m, L ++ [{ t with pos := (k : Int) }], by omega, by go_num, HO4.out, (HR.out.2.1.trans (hb2.mono hwr)).trans (((Below.refl _ _).alloc (by omega) _).trans HB4.out), by
              have := HR.out.2.2.1.tok hks HBL.out H35.out HT.out; rwa [HM.out] at this, by simp; omega⟩
            case measure => simp [intOf]; omega
        · have HBL := Lib.hid hbl
          clear hbl
          go_wp2_with (go_at_call 28; refine (rblank_n _ _ HBL.out _).mono ?_; rintro e w' ⟨rfl, rfl⟩)
          go_roundw
          case rel => exact ⟨k + 1, L, by omega, by go_num, HR.out.1, HR.out.2.1, HR.out.2.2.1.blank hks HBL.out, by omega⟩
          case measure => simp [intOf]; omega
    · go_wp2
      go_ret3
      exact ⟨.inl ⟨u5, by
        have := HR.out.2.2.1.last (by omega)
        rw [this], rfl, by
        have := HR.out.2.2.1.last (by omega)
        rw [this]; exact HR.out.1.rt⟩, HR.out.2.1⟩
end Go.Proofs.YtlpmeodphjpmeaaDoor.Lex
