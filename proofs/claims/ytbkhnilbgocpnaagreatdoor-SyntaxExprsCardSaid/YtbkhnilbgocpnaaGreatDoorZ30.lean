import Derived.Test.YtbkhnilbgocpnaaGreatDoorZ29
import Derived.Test.YtbkhnilbgocpnaaGreatDoorZ22
import Derived.Test.YtbkhnilbgocpnaaGreatDoorZ1
import Derived.Test.YtbkhnilbgocpnaaGreatDoorZ14
set_option linter.unusedVariables false
set_option linter.unusedSimpArgs false
namespace Go.Proofs.YtbkhnilbgocpnaaGreatDoor.SynC
open Go.Proofs.YtbkhnilbgocpnaaGreatDoor.LexC
open Go Go.ChangeShapes Go.WideShapes Go.ChangeAt Go.RowKit Go.Deep
set_option maxRecDepth 100000 in
set_option maxHeartbeats 2000000 in
theorem unText_112 (op : Int) (h0 : 0 ≤ op) (h1 : op < 3) (w : World) : Calls Tryz.prog 112 #[.int .i64 op] w fun e w' => e = .returned (.string (bs (unText op))) ∧ Below w.heap.size w w' := by
  have HU := Lib.hid (ref_un op)
  rw [show decide (0 ≤ op ∧ op < 3) = true by simp; omega] at HU
  have h : op = 0 ∨ op = 1 ∨ op = 2 := by omega
  rcases h with rfl | rfl | rfl
  all_goals
    go_enter Tryz.func112, Tryz.ntmps112
    go_wp2_with fail
    refine (HU.out _).mono ?_
    rintro e w1 ⟨rfl, rfl⟩
    go_wp2
    go_ret
    exact ⟨rfl, bel_al _ _⟩
set_option maxRecDepth 100000 in
set_option maxHeartbeats 2000000 in
theorem special_111 (w : World) : Calls Tryz.prog 111 #[] w fun e w' => e = .returned (.slice (some ⟨w.heap.size, 0, none⟩) 4 4) ∧ w' = w.alloc (.cells #[.string (bs [116, 105, 100]), .string (bs [98, 105, 100]), .string (bs [100, 105, 109]), .string (bs [103, 114, 105, 100])] 9) := by
  go_enter Tryz.func111, Tryz.ntmps111
  go_wp2
  go_ret
  first | exact ⟨rfl, rfl⟩
end Go.Proofs.YtbkhnilbgocpnaaGreatDoor.SynC
namespace Go.Proofs.YtbkhnilbgocpnaaGreatDoor.SynC
open Go.Proofs.YtbkhnilbgocpnaaGreatDoor.LexC
open Go Go.ChangeShapes Go.WideShapes Go.ChangeAt Go.RowKit Go.Deep
def sv (t : List UInt8) : Value := .string (bs t)
def OwnS (w : World) (base : Nat) (v : Value) (L : List (List UInt8)) : Prop := w.ownsRow base 9 1 v L.length (L.map sv)
theorem OwnS.nil (w : World) (base : Nat) : OwnS w base (.slice none 0 0) [] := ⟨rfl, .inl ⟨rfl, rfl⟩⟩
theorem OwnS.below {w w' : World} {base : Nat} {v : Value} {L : List (List UInt8)} (h : OwnS w base v L) (hb : Below w.heap.size w w') : OwnS w' base v L := by
  refine ⟨h.1, ?_⟩
  rcases h.2 with hv | ⟨g, cap, cur, hv, h1, h2, h3⟩
  · exact .inl hv
  · exact .inr ⟨g, cap, cur, hv, h1, (hb.block g (Array.getElem?_eq_some_iff.1 h2).1).trans h2, h3⟩
theorem OwnS.open_ {w : World} {base : Nat} {v : Value} {L : List (List UInt8)} (h : OwnS w base v L) : ∃ A c, v = .slice A L.length c ∧ ∀ i t, L[i]? = some t → ∃ g, A = some ⟨g, 0, none⟩ ∧ base ≤ g ∧ g < w.heap.size ∧ w.cell? ⟨g, i, none⟩ = some (.string (bs t)) := by
  obtain ⟨h0, h1⟩ := h
  rcases h1 with ⟨hv, hl⟩ | ⟨g, cap, cur, hv, hb, hq, hn, _, hsz, ht⟩
  · exact ⟨none, 0, by rw [hv, hl], fun i t hi => by
      have := (List.getElem?_eq_some_iff.1 hi).1
      omega⟩
  · refine ⟨some ⟨g, 0, none⟩, cap, hv, fun i t hi => ⟨g, rfl, hb, (Array.getElem?_eq_some_iff.1 hq).1, ?_⟩⟩
    rw [cell_of_row _ _ i _ _ _ hq]
    have hi' : (L.map sv)[i]? = some (sv t) := by simp [hi]
    have hlt := (List.getElem?_eq_some_iff.1 hi).1
    rw [← ht, List.getElem?_take, if_pos (by omega), Array.getElem?_toList] at hi'
    exact hi'
end Go.Proofs.YtbkhnilbgocpnaaGreatDoor.SynC
