import Derived.Test.YtbkhnilbgocpnaaGreatDoorZ20
import Derived.Test.YtbkhnilbgocpnaaGreatDoorZ19
import Derived.Test.YtbkhnilbgocpnaaGreatDoorTie
set_option linter.unusedVariables false
set_option linter.unusedSimpArgs false
namespace Go.Proofs.YtbkhnilbgocpnaaGreatDoor.SynC
open Go.Proofs.YtbkhnilbgocpnaaGreatDoor.LexC
open Go.Proofs.YtbkhnilbgocpnaaGreatDoor.SynF
open Go Go.ChangeShapes Go.WideShapes Go.ChangeAt Go.RowKit Go.Deep
def laidS : List (String × DataW Unit) := Rows.syntaxNamesRow.laid
theorem own : ownKnob Tryz.prog.godebug = none := by kernel_rfl
theorem laidOut : laidOutB Tryz.prog = true := by kernel_rfl
theorem door_met (os : Os) (args : Array Value) : laidMetH Tryz.prog laidS ((World.doorLaid Tryz.prog 400 os).forCall (fun _ _ => 0) ⟨#[], args, []⟩).memory :=
  laidMetH_of_parts3 (fuel := 8) (laidMet_of_run' 8 (by kernel_rfl) (by kernel_rfl)) (by kernel_rfl) (by kernel_rfl)
theorem laid_at {W : World} : ∀ (l : List (String × DataW Unit)) (ps : List MemPlace), DataW.LaidVars Tryz.prog W l ps → ∀ x ∈ l,
    ∃ (g t : Nat) (cs : Array Value) (fuel : Nat) (p : List MemPlace), Tryz.prog.globalNamed x.1 = some g ∧ (Tryz.prog.globals[g]?).map (·.type) = some t ∧ W.var? Tryz.prog x.1 = some cs ∧ DataW.trod (fun _ => ()) Tryz.prog W 0 (fun _ => true) false fuel t cs.toList = some (x.2, p)
  | [], _, _, _, h => by cases h
  | (n, d) :: r, ps, h, x, hx => by
    obtain ⟨g, t, cs, fuel, p, q, h1, h2, h3, h4, h5, _⟩ := h
    rcases List.mem_cons.1 hx with rfl | hx
    · exact ⟨g, t, cs, fuel, p, h1, h2, h3, h4⟩
    · exact laid_at r q h5 x hx
theorem gv_at {W : World} {ps : List MemPlace} (h : DataW.LaidVars Tryz.prog W laidS ps) (k g : Nat) (l : List Value) (hk : (laidS[k]?).map (fun x => Tryz.prog.globalNamed x.1) = some (some g)) (hd : (laidS[k]?).map (fun x => flat x.2) = some l)
    (hp : ((Tryz.prog.globals[g]?).map (·.type)).all (fun t => plainT Tryz.prog 4 t && decide (t < Tryz.prog.types.size)) = true) : Gv W g l.toArray := by
  obtain ⟨x, hx, hx1⟩ := Option.map_eq_some_iff.1 hk
  rw [hx] at hd
  obtain ⟨g0, t, cs, fuel, p, h1, h2, h3, h4⟩ := laid_at laidS ps h x (List.mem_of_getElem? hx)
  rw [hx1] at h1
  cases h1
  rw [h2] at hp
  simp only [Option.all_some, Bool.and_eq_true, decide_eq_true_eq] at hp
  have hf := trod_flat laidOut 4 _ _ _ _ hp.1 hp.2 h4
  simp only [Option.map_some, Option.some.injEq] at hd
  have hcs : cs = l.toArray := by rw [← hd]; exact Array.ext' (by rw [hf])
  subst hcs
  unfold World.var? at h3
  rw [hx1] at h3
  simp only [Option.bind_some] at h3
  cases hh : W.heap[g]? with
  | none => rw [hh] at h3; cases h3
  | some o =>
    rw [hh] at h3
    cases o with
    | cells cs ty fr =>
      simp only [Option.some.injEq] at h3
      exact ⟨ty, fr, by rw [hh, h3]⟩
    | _ => cases h3
theorem of_laid {W : World} (h : laidMetH Tryz.prog laidS W) : Gl W := by
  rw [MakeChecks.laidMetH_plain _ _ _ (by kernel_rfl)] at h
  obtain ⟨ps, h, _⟩ := h
  have g2 := gv_at h 0 2 signsA.toList (by kernel_rfl) (by rfl) (by kernel_rfl)
  have g7 := gv_at h 3 7 powA.toList (by kernel_rfl) (by rfl) (by kernel_rfl)
  have g3 := gv_at h 4 3 infA.toList (by kernel_rfl) (by rfl) (by kernel_rfl)
  have g1 := gv_at h 5 1 prefA.toList (by kernel_rfl) (by rfl) (by kernel_rfl)
  have g0 := gv_at h 6 0 specA.toList (by kernel_rfl) (by rfl) (by kernel_rfl)
  have g6 := gv_at h 7 6 foldA.toList (by kernel_rfl) (by rfl) (by kernel_rfl)
  have g4 := gv_at h 8 4 exsA.toList (by kernel_rfl) (by rfl) (by kernel_rfl)
  have g5 := gv_at h 9 5 stsA.toList (by kernel_rfl) (by rfl) (by kernel_rfl)
  obtain ⟨x, hx, hx1⟩ : ∃ x, laidS[2]? = some x ∧ Tryz.prog.globalNamed x.1 = some 9 := ⟨_, rfl, by kernel_rfl⟩
  obtain ⟨g9, t, cs, fuel, p, h1, h2, h3, h4⟩ := laid_at laidS ps h x (List.mem_of_getElem? hx)
  rw [hx1] at h1
  cases h1
  have hz : 10 ≤ W.heap.size := by
    unfold World.var? at h3
    rw [hx1] at h3
    simp only [Option.bind_some] at h3
    cases hh : W.heap[9]? with
    | none => rw [hh] at h3; cases h3
    | some o => exact (Array.getElem?_eq_some_iff.1 hh).1
  exact ⟨⟨g2, g0, g1, g3, g6⟩, g7, ⟨g4, g5, g6⟩, hz⟩
end Go.Proofs.YtbkhnilbgocpnaaGreatDoor.SynC
