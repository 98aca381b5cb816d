import Derived.Test.YtlpmeodphjpmeaaDoorOne
/- The reference's one at a sign. -/
namespace Go.Proofs.YtlpmeodphjpmeaaDoor.Lex
open Go.ChangeShapes Go.WideShapes Go.ChangeAt Go.RowKit

set_option maxHeartbeats 4000000 in
theorem one_sign (s : ByteArray) (hs : s.size ≤ 100000) (i : Nat) (hi : i < s.size) (hl : letN (s[i].toNat : Int) = false) (hd : digN (s[i].toNat : Int) = false) (w : World) :
    Calls Tryd.prog 29 #[.string s, .int .i64 (i : Nat)] w fun e w' => OnePost (tokenAt (s.data.toList.drop i)) i e ∧ Below w.heap.size w w' := by
  have hT : tokenAt (s.data.toList.drop i) = signTok (s.data.toList.drop i) := by
    rw [drop_form s i hi, tokenAt_cons, if_neg (by unfold letB; rw [hl]; decide), if_neg (by unfold digB; rw [hd]; decide)]
  rw [hT]
  clear hT
  have HL := Lib.hid hl
  have HD := Lib.hid hd
  clear hl hd
  go_enter Tryd.func29, Tryd.ntmps29
  go_wp2_with (first | (go_at_call 34; refine (rletter_n _ _ HL.out _).mono ?_; rintro e w' ⟨rfl, rfl⟩) | (go_at_call 35; refine (rdigit_n _ _ HD.out _).mono ?_; rintro e w' ⟨rfl, rfl⟩) | (go_at_call 21; refine (refSigns_any _).mono ?_; rintro e w1 ⟨rfl, hr0, hb⟩; have hr := Lib.hid (show Rs w1 (w.heap.size + 1) signsL from (by simpa using hr0)); clear hr0; obtain ⟨hc, hf⟩ := bcell hb; have hz : w.heap.size < w1.heap.size := (by have := hb.size; simp at this; omega)))
  go_loop [12] (fun v => ∃ k : Nat, k ≤ 31 ∧ v = .int .i64 k ∧ NoSign (s.data.toList.drop i) k) (fun v => 31 - (intOf v).toNat)
  case atStart => exact ⟨0, Nat.zero_le _, rfl, by unfold NoSign; simp⟩
  case round =>
    obtain ⟨k, hk, rfl, hno⟩ := hrel
    have HN := Lib.hid hno
    clear hno
    by_cases hlt : k < 31
    · obtain ⟨g, hg⟩ : ∃ g, sgn k = g := ⟨_, rfl⟩
      have hln := sgn_len k hlt
      have hcell := hr.out k hlt
      rw [show signsL.getD k [] = g from hg] at hcell
      rw [hg] at hln
      have hlen3 : g.length ≤ 3 := hln.2
      clear hln
      have HG := Lib.hid hg
      clear hg
      cases hp : g.isPrefixOf (s.data.toList.drop i)
      · have HP := Lib.hid hp
        clear hp
        go_wp2_with (first | (go_at_call 41; (with_reducible refine (starts_any s hs i (by omega) g hlen3 _ HP.out _).mono ?_); rintro e w' ⟨rfl, rfl⟩))
        go_round
        case rel => exact ⟨k + 1, by omega, by go_num, HN.out.next hlt (by rw [HG.out, HP.out])⟩
        case measure => simp [intOf]; omega
      · have HP := Lib.hid hp
        clear hp
        go_wp2_with (first | (go_at_call 41; (with_reducible refine (starts_any s hs i (by omega) g hlen3 _ HP.out _).mono ?_); rintro e w' ⟨rfl, rfl⟩))
        exact bodyPost_ret (v := .tuple #[.agg #[.int .i64 2, .int .i64 (i : Nat), .string (bs g), .int .i32 0], .bool true]) (by simp [results, Tryd.results29, go_sem, hz, hc]) rfl ⟨by rw [HN.out.hit hlt (by rw [HG.out, HP.out]), HG.out]; rfl, by
          repeat (first | exact (((Below.refl _ _).alloc (Nat.le_refl _) _).trans (hb.mono (by simp))) | refine Below.setCell ?_ (by simp) _ | refine Below.alloc ?_ (by simp; omega) _)⟩
    · go_wp2
      exact bodyPost_ret (v := .tuple #[.agg #[.int .i64 0, .int .i64 0, .string ⟨#[]⟩, .int .i32 0], .bool false]) (by simp [results, Tryd.results29, go_sem, hz, hc]) rfl ⟨by rw [HN.out.last (by omega)]; exact ⟨_, _, _, _, rfl⟩, by
        repeat (first | exact (((Below.refl _ _).alloc (Nat.le_refl _) _).trans (hb.mono (by simp))) | refine Below.setCell ?_ (by simp) _ | refine Below.alloc ?_ (by simp; omega) _)⟩
end Go.Proofs.YtlpmeodphjpmeaaDoor.Lex
