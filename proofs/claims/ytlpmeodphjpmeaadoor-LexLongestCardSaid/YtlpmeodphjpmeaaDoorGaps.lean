import Derived.Test.YtlpmeodphjpmeaaDoorRef
import Derived.Test.YtlpmeodphjpmeaaDoorCMath
/- The reference's Gaps. -/
namespace Go.Proofs.YtlpmeodphjpmeaaDoor.Lex
open Go.ChangeShapes Go.WideShapes Go.ChangeAt Go.RowKit

theorem is10 {c : UInt8} (h : (c.toNat : Int) = 10) : c = 10 := by
  apply UInt8.toNat_inj.1
  have : c.toNat = 10 := by omega
  rw [this]; rfl
theorem is35 {c : UInt8} (h : (c.toNat : Int) = 35) : c = 35 := by
  apply UInt8.toNat_inj.1
  have : c.toNat = 35 := by omega
  rw [this]; rfl
theorem not10 {c : UInt8} (h : ¬ (c.toNat : Int) = 10) : c ≠ 10 := by rintro rfl; exact h (by decide)

set_option maxHeartbeats 2000000 in
theorem gaps_any (s : ByteArray) (hs : s.size ≤ 100000) (last o : Bool) (ho : gaps false s.data.toList = some o) (w : World) :
    Calls Tryd.prog 18 #[.string s, .bool last] w fun e w' => e = .returned (.bool (last || !o)) ∧ w = w' := by
  have HO := Lib.hid ho
  clear ho
  go_enter Tryd.func18, Tryd.ntmps18
  go_wp2
  go_loop [5, 6] (fun p i => ∃ (k : Nat) (q : Bool), k ≤ s.size ∧ i = .int .i64 k ∧ p = .bool q ∧ gaps q (s.data.toList.drop k) = some o) (fun _ i => s.size - (intOf i).toNat)
  case atStart => exact ⟨0, false, Nat.zero_le _, rfl, rfl, by rw [List.drop_zero]; exact HO.out⟩
  case round =>
    obtain ⟨k, q, hk, rfl, rfl, hg⟩ := hrel
    by_cases hlt : k < s.size
    · rw [drop_cons s k hlt, gaps_cons] at hg
      by_cases h10 : (s[k].toNat : Int) = 10
      · rw [if_pos (is10 h10)] at hg
        have hne : ((s[k].toNat : Int) == 10) = true := by rw [h10]; rfl
        have HG := Lib.hid hg
        clear hg h10
        go_wp2
        go_round
        case rel => exact ⟨k + 1, false, by omega, by go_num, rfl, HG.out⟩
        case measure => simp [intOf]; omega
      · rw [if_neg (not10 h10)] at hg
        have hne : ((s[k].toNat : Int) == 10) = false := by simpa using h10
        clear h10
        by_cases h35 : (s[k].toNat : Int) = 35
        · rw [if_pos (is35 h35)] at hg
          have hne2 : ((s[k].toNat : Int) == 35) = true := by rw [h35]; rfl
          have HG := Lib.hid hg
          clear hg h35
          go_wp2
          go_round
          case rel => exact ⟨k + 1, true, by omega, by go_num, rfl, HG.out⟩
          case measure => simp [intOf]; omega
        · rw [if_neg (not_hash h35)] at hg
          have hne2 : ((s[k].toNat : Int) == 35) = false := by simpa using h35
          clear h35
          cases q
          · cases hb : blkN (s[k].toNat : Int)
            · rw [if_pos ⟨rfl, hb⟩] at hg
              cases hg
            · rw [if_neg (by intro h; rw [show blkB s[k] = true from hb] at h; cases h.2)] at hg
              have HG := Lib.hid hg
              have HB := Lib.hid hb
              clear hg hb
              go_wp2_with (go_at_call 28; refine (rblank_n _ _ HB.out _).mono ?_; rintro e w' ⟨rfl, rfl⟩)
              go_round
              case rel => exact ⟨k + 1, false, by omega, by go_num, rfl, HG.out⟩
              case measure => simp [intOf]; omega
          · rw [if_neg (by simp)] at hg
            have HG := Lib.hid hg
            clear hg
            go_wp2
            go_round
            case rel => exact ⟨k + 1, true, by omega, by go_num, rfl, HG.out⟩
            case measure => simp [intOf]; omega
    · rw [drop_nil s k (by omega)] at hg
      have hq : q = o := Option.some.inj hg
      clear hg
      subst hq
      cases last <;> cases q
      all_goals
        go_wp2
        go_ret
        exact ⟨rfl, rfl⟩
end Go.Proofs.YtlpmeodphjpmeaaDoor.Lex
