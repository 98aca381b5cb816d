import Derived.Test.YtlpmeodphjpmeaaDoorRSign
import Derived.Test.YtlpmeodphjpmeaaDoorTie
import Derived.LaidMore
import Derived.OpenShut
import Derived.Stop.Joined
/- The variable of the signs holds just the signs; the witness of the rows. -/
namespace Go.Proofs.YtlpmeodphjpmeaaDoor.Lex
open Go.ChangeShapes Go.WideShapes Go.ChangeAt Go.RowKit

/-- What the rows list. -/
def laidS : List (String × DataW Unit) := Rows.lexTokensRow.laid
def sigName : String := Rows.lexTokensRow.named.headD "none"
theorem own : ownKnob Tryd.prog.godebug = none := by kernel_rfl
theorem laidOut : laidOutB Tryd.prog = true := by kernel_rfl
theorem gSigns : Tryd.prog.globalNamed sigName = some 0 := by kernel_rfl
theorem tSigns : (Tryd.prog.globals[0]?).map (·.type) = some 55 := by kernel_rfl

/-- The door's own heap meets the condition. -/
theorem door_met (os : Os) (args : Array Value) : laidMetH Tryd.prog laidS ((World.doorLaid Tryd.prog 400 os).forCall (fun _ _ => 0) ⟨#[], args, []⟩).memory :=
  laidMetH_of_parts3 (fuel := 8) (laidMet_of_run' 8 (by kernel_rfl) (by kernel_rfl)) (by kernel_rfl) (by kernel_rfl)

theorem laid_eq : (Rows.laid_drawloom_lex_signs : DataW Unit) = .agg (signsL.map fun g => .lit (.string g)) := by rfl

/-- What the condition gives the walks. -/
theorem of_laid {W : World} (h : laidMetH Tryd.prog laidS W) : Sg W := by
  rw [MakeChecks.laidMetH_plain _ _ _ (by kernel_rfl)] at h
  obtain ⟨ps, ⟨g0, t0, cs0, f0, p0, q0, hg0, ht0, hv0, hd0, _, _⟩, _, _⟩ := h
  obtain rfl := Option.some.inj (gSigns.symm.trans hg0)
  obtain rfl := Option.some.inj (tSigns.symm.trans ht0)
  have hcs : cs0 = signsA := by
    obtain ⟨xs, m1, rfl, hx1, hlen, hn, hel⟩ := DataW.trod_array Tryd.underlying55 hd0
    have c9 : Tryd.prog.cellsOf 9 = 1 := by kernel_rfl
    have c55 : Tryd.prog.cellsOf 55 = 31 := by kernel_rfl
    rw [c55] at hlen
    simp only [Prod.mk.injEq] at hx1
    have hx2 := hx1.1
    rw [laid_eq] at hx2
    simp only [DataW.agg.injEq] at hx2
    obtain ⟨l0⟩ := cs0
    simp only at hlen hel
    unfold signsA
    congr 1
    apply List.ext_getElem?
    intro i
    by_cases hi : i < 31
    · have h1 := hel i hi
      rw [c9] at h1
      have hl0 : i < l0.length := by omega
      have e1 : (l0.drop (i * 1)).take 1 = [l0[i]] := by
        rw [Nat.mul_one, List.drop_eq_getElem_cons hl0]; rfl
      rw [e1, List.getElem?_eq_getElem (by omega)] at h1
      obtain ⟨s, hs, hx, _⟩ := DataW.trod_string Tryd.underlying9 h1
      have hs' : l0[i] = .string s := by simpa using hs
      rw [List.getElem?_eq_getElem hl0, hs']
      have h2 : (xs.map (·.1))[i]? = some (.lit (.string s.data.toList)) := by
        rw [List.getElem?_map, List.getElem?_eq_getElem (by omega), hx]; rfl
      rw [← hx2, List.getElem?_map] at h2
      rw [List.getElem?_map]
      cases hg : signsL[i]? with
      | none => rw [hg] at h2; cases h2
      | some g =>
        rw [hg] at h2
        simp only [Option.map_some, Option.some.injEq, DataW.lit.injEq, Lit.string.injEq] at h2 ⊢
        rw [h2, bs_self]
    · rw [List.getElem?_eq_none (by omega), List.getElem?_eq_none (by simp [signsL]; omega)]
  subst hcs
  unfold World.var? at hv0
  rw [hg0] at hv0
  simp only [Option.bind_some] at hv0
  cases hh : W.heap[0]? with
  | none => rw [hh] at hv0; cases hv0
  | some o =>
    rw [hh] at hv0
    cases o with
    | cells cs ty fr =>
      simp only [Option.some.injEq] at hv0
      exact ⟨ty, fr, by rw [hh, hv0]⟩
    | _ => cases hv0
end Go.Proofs.YtlpmeodphjpmeaaDoor.Lex
