import Derived.Test.YtlpmeodphjpmeaaDoorAwake
import Derived.Test.YtlpmeodphjpmeaaDoorRef
/- The walk of the law of names. -/
namespace Go.Proofs.YtlpmeodphjpmeaaDoor.Lex
open Go.ChangeShapes Go.WideShapes Go.ChangeAt Go.RowKit

set_option maxHeartbeats 1000000 in
theorem names_walk (s : ByteArray) (hs : s.size ≤ maxLen) (w : World) (hS : Sg w) : Calls Tryd.prog 4 #[.string s] w fun e w' => e = .returned (.bool true) ∧ Below w.heap.size w w' := by
  have hs2 := hs
  unfold maxLen at hs
  by_cases h6 : 6000 < s.size
  · go_enter Tryd.func4, Tryd.ntmps4
    go_wp2_with fail
    refine (awake_any _ hS).mono ?_
    rintro e w1 ⟨rfl, hb1⟩
    go_wp2
    go_ret
    exact ⟨rfl, hb1⟩
  · have hd : decide ((6000 : Int) < s.size) = false := by simp; omega
    obtain ⟨b, hb⟩ : ∃ b, isName s.data.toList = b := ⟨_, rfl⟩
    have n1 := name_any s hs2
    have n2 := refName_any s hs2
    rw [hb] at n1 n2
    have N1 := Lib.hid n1
    have N2 := Lib.hid n2
    have HS := Lib.hid hS
    clear n1 n2 hb hS
    go_enter Tryd.func4, Tryd.ntmps4
    go_wp2_with fail
    refine (N1.out _).mono ?_
    rintro e w1 ⟨rfl, hb1⟩
    go_wp2_with fail
    refine (N2.out _).mono ?_
    rintro e w2 ⟨rfl, hb2⟩
    go_wp2_with fail
    refine (awake_any _ (HS.out.below (seq hb1 hb2))).mono ?_
    rintro e w3 ⟨rfl, hb3⟩
    go_wp2
    go_ret
    exact ⟨rfl, seq (seq hb1 hb2) hb3⟩
end Go.Proofs.YtlpmeodphjpmeaaDoor.Lex
