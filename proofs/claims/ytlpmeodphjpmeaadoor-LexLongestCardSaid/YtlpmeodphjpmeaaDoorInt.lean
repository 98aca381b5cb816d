import Derived.Test.YtlpmeodphjpmeaaDoorMem
import Derived.IntWalk
/- lex.value, lex.readInteger; the reference's Value. -/
namespace Go.Proofs.YtlpmeodphjpmeaaDoor.Lex
open Go.ChangeShapes Go.WideShapes Go.ChangeAt Go.RowKit

def AllDig (l : List UInt8) : Prop := ∀ c ∈ l, digB c = true
theorem AllDig.at_ {s : ByteArray} (h : AllDig s.data.toList) (k : Nat) (hk : k < s.size) : (48 : Int) ≤ s[k].toNat ∧ (s[k].toNat : Int) ≤ 57 := by
  have h1 := h s[k] (List.mem_of_getElem? (get_toList s k hk))
  unfold digB digN at h1
  simpa using h1
theorem val_step {s : ByteArray} {k : Nat} (hk : k < s.size) (a : Int) :
    valAcc a (s.data.toList.drop k) = if 2147483648 < a * 10 + ((s[k].toNat : Int) - 48) then none else valAcc (a * 10 + ((s[k].toNat : Int) - 48)) (s.data.toList.drop (k + 1)) := by
  rw [drop_cons s k hk]; rfl
theorem val_end {s : ByteArray} {k : Nat} (hk : s.size ≤ k) (a : Int) : valAcc a (s.data.toList.drop k) = some a := by
  rw [drop_nil s k hk]; rfl
def ValRel (s : ByteArray) (k : Nat) (a : Int) : Prop := 0 ≤ a ∧ a ≤ 2147483648 ∧ valAcc 0 s.data.toList = valAcc a (s.data.toList.drop k)
def valI (o : Option Int) : Int := match o with | some v => wrap32 v | none => 0
def valJ (o : Option Int) : Int := match o with | some v => v | none => 0

theorem wrap_val (a : Int) (h0 : 0 ≤ a) (h1 : a ≤ 2147483648) : RowKit.wrap32 a = wrap32 a := by
  unfold RowKit.wrap32 wrap32; split <;> omega

theorem value_any (s : ByteArray) (hs : s.size ≤ maxLen) (hd : AllDig s.data.toList) (w : World) :
    Calls Tryd.prog 44 #[.string s] w fun e w' => e = .returned (.tuple #[.int .i32 (valI (valAcc 0 s.data.toList)), .bool (valAcc 0 s.data.toList).isSome]) ∧ w = w' := by
  unfold maxLen at hs
  have HD := Lib.hid hd
  clear hd
  go_enter Tryd.func44, Tryd.ntmps44
  go_wp2
  go_loop [4, 8] (fun v i => ∃ (k : Nat) (a : Int), k ≤ s.size ∧ i = .int .i64 k ∧ v = .int .i64 a ∧ ValRel s k a) (fun _ i => s.size - (intOf i).toNat)
  case atStart => exact ⟨0, 0, Nat.zero_le _, rfl, rfl, by omega, by omega, by simp⟩
  case round =>
    obtain ⟨k, a, hk, rfl, rfl, h0, h1, hv⟩ := hrel
    have HV := Lib.hid hv
    clear hv
    by_cases hlt : k < s.size
    · obtain ⟨d0, d1⟩ := HD.out.at_ k hlt
      have hst := Lib.hid (val_step hlt a)
      by_cases hbig : 2147483648 < a * 10 + ((s[k].toNat : Int) - 48)
      · go_wp2
        go_ret2
        exact ⟨by rw [HV.out, hst.out, if_pos hbig]; rfl, rfl⟩
      · go_wp2
        go_round
        case rel => exact ⟨k + 1, a * 10 + ((s[k].toNat : Int) - 48), by omega, by go_num, rfl, by omega, by omega, by rw [HV.out, hst.out, if_neg hbig]⟩
        case measure => simp [intOf]; omega
    · have he := Lib.hid (val_end (s := s) (k := k) (by omega) a)
      go_wp2
      go_ret2
      exact ⟨by rw [HV.out, he.out, wrap_val a h0 h1]; rfl, rfl⟩

theorem refValue_any (s : ByteArray) (hs : s.size ≤ maxLen) (hd : AllDig s.data.toList) (w : World) :
    Calls Tryd.prog 40 #[.string s] w fun e w' => e = .returned (.tuple #[.int .i64 (valJ (valAcc 0 s.data.toList)), .bool (valAcc 0 s.data.toList).isSome]) ∧ w = w' := by
  unfold maxLen at hs
  have HD := Lib.hid hd
  clear hd
  go_enter Tryd.func40, Tryd.ntmps40
  go_wp2
  go_loop [4, 5] (fun v i => ∃ (k : Nat) (a : Int), k ≤ s.size ∧ i = .int .i64 k ∧ v = .int .i64 a ∧ ValRel s k a) (fun _ i => s.size - (intOf i).toNat)
  case atStart => exact ⟨0, 0, Nat.zero_le _, rfl, rfl, by omega, by omega, by simp⟩
  case round =>
    obtain ⟨k, a, hk, rfl, rfl, h0, h1, hv⟩ := hrel
    have HV := Lib.hid hv
    clear hv
    by_cases hlt : k < s.size
    · obtain ⟨d0, d1⟩ := HD.out.at_ k hlt
      have hst := Lib.hid (val_step hlt a)
      by_cases hbig : 2147483648 < a * 10 + ((s[k].toNat : Int) - 48)
      · have hbig' : 2147483648 < 10 * a + ((s[k].toNat : Int) - 48) := by omega
        go_wp2
        go_ret2
        exact ⟨by rw [HV.out, hst.out, if_pos hbig]; rfl, rfl⟩
      · have hbig' : ¬ 2147483648 < 10 * a + ((s[k].toNat : Int) - 48) := by omega
        go_wp2
        go_round
        case rel => exact ⟨k + 1, a * 10 + ((s[k].toNat : Int) - 48), by omega, by go_num, by go_num, by omega, by omega, by rw [HV.out, hst.out, if_neg hbig]⟩
        case measure => simp [intOf]; omega
    · have he := Lib.hid (val_end (s := s) (k := k) (by omega) a)
      go_wp2
      go_ret2
      exact ⟨by rw [HV.out, he.out]; rfl, rfl⟩
end Go.Proofs.YtlpmeodphjpmeaaDoor.Lex
