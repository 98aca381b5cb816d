/- SyntaxMixed returns true for every two programs, and changes nothing that was there; the row lists ten variables (of lex, syntax, strconv and math/bits), tied to the text of the program. No further conditions. -/
import Derived.Test.YtbkhnilbgocpnaaGreatDoorRows
import Derived.WalkKit
import Derived.ProofKit
import Derived.OpenShut
import Derived.ShutString
import Derived.Below
import Derived.ChangeOld
import Derived.SevenTiedAt
import Derived.SizedLaws
import Derived.Test.YtbkhnilbgocpnaaGreatDoorCards
import Derived.Test.YtbkhnilbgocpnaaGreatDoorFSyntaxMixed
import Derived.Test.YtbkhnilbgocpnaaGreatDoorK20
import Derived.Test.YtbkhnilbgocpnaaGreatDoorK34
set_option linter.unusedVariables false
set_option linter.unusedSimpArgs false
namespace Go.Proofs.YtbkhnilbgocpnaaGreatDoor.syntaxMixed
open Go.ChangeShapes Go.WideShapes Go.ChangeAt Go.RowKit
open SynC
open LexC
open Go.ChangeMaps (open_string shut_string)

theorem re_cells {W : World} {P : Nat → Prop} {cs : List Value} {e : Ex} (h : RE W P cs e) : ∃ (k o n : Int) (x : List UInt8) (A : Option Addr) (m c : Nat), cs = [.int .i64 k, .int .i64 o, .int .i32 n, .string (bs x), .slice A m c] := by
  cases e with
  | mk kind op num name kids =>
    rw [RE] at h
    obtain ⟨K, hc, hK⟩ := h
    rcases hK with ⟨hK, _⟩ | ⟨a, c, hK, _⟩
    · exact ⟨kind, op, num, name, none, 0, 0, by rw [hc, hK]; rfl⟩
    · exact ⟨kind, op, num, name, some a, kids.length, c, by rw [hc, hK]; rfl⟩

set_option maxRecDepth 100000 in
theorem lifted (os : Os) (started : os.Started) (H : Type) (enc : TypeId × Value → H) :
    ReturnsInHanded {} Tryz.checked os 12 .any (fun w args => (Rows.syntaxMixedSpec.pre enc Tryz.prog Tryz.f12 [] false w args ∧ laidMetH Tryz.prog laidS w) ∧ sizedMet enc Tryz.prog Tryz.f12 (OpenSpec.ofChange Rows.syntaxMixedSpec) false w args)
      (Rows.syntaxMixedSpec.post enc Tryz.prog Tryz.f12 false true false false) := by
  refine returnsInHanded_of_change_and (C := Tryz.checked) (X := fun w _ => laidMetH Tryz.prog laidS w) (fun _ _ _ hh h => h.of_heap hh) own started (by kernel_rfl) Tryz.func12
    (ChangeSpec.witness_shaped (enc := enc) (C := Tryz.checked) (os := os) (X := fun w _ => laidMetH Tryz.prog laidS w) false (World.doorLaid Tryz.prog 400 os) #[.agg #[.slice none 0 0, .slice none 0 0], .agg #[.slice none 0 0, .slice none 0 0]] 8 rfl (World.shaped_of_RefB (by kernel_rfl) (by kernel_rfl)) (by kernel_rfl) (by kernel_rfl) (by kernel_rfl) (door_met os _)) ?_
  intro W base args ds gs before hval0 hW _ hwt0 hL _
  have hval : ∀ (j : Nat) t v, Tryz.f12.params[j]? = some t → args[j]? = some v → Value.okWide Tryz.prog W .any base t v := hval0
  have hwt : (DataW.weightsEach Tryz.prog (Tryz.f12.params.toList ++ Rows.syntaxMixedSpec.plain.varTypes Tryz.prog) (ds ++ gs)).all (· ≤ reachBytes) = true := hwt0
  have hW' := hW
  obtain ⟨p, q, hA0, hV, rfl, hfz, hnd⟩ := hW
  have hA : DataW.TrodAll enc Tryz.prog W 0 (fun _ => true) true Tryz.f12.params.toList args.toList ds p := hA0
  rw [Tryz.params12] at hA hval hwt
  obtain ⟨v0, vs0, d0, ds0, p0, q0, hargs, rfl, rfl, h0, r0⟩ := trodAll_cons hA
  obtain ⟨v1, vs1, d1, ds1, p1, q1, rfl, rfl, rfl, h1, r1⟩ := trodAll_cons r0
  obtain ⟨rfl, rfl, rfl⟩ := trodAll_nil r1
  obtain rfl : args = #[v0, v1] := by cases args; simp_all
  obtain ⟨rfl, rfl⟩ := trodVars_none hV
  obtain ⟨cs0, rfl, hsz0⟩ := okWide_struct Tryz.underlying26 (hval 0 26 v0 rfl rfl)
  have k0 := h0
  have lt0 : ∀ x ∈ p0, x.block < W.heap.size := by obtain ⟨m, hm⟩ := k0; exact DataW.trod_lt m _ _ _ hm
  have wt0 : Wt d0 26 := fun n hn => by simpa using List.all_eq_true.1 hwt _ (DataW.weights_mem_each (j := 0) (t := 26) rfl rfl n hn)
  obtain ⟨A0, m0, c0, B0, mb0, cb0, q0, hcs0, hq0⟩ : ∃ A m c B mb cb q, cs0 = #[.slice A m c, .slice B mb cb] ∧ PgAr W A m c B mb cb q := by
    obtain ⟨fuel, hf⟩ := h0
    obtain ⟨A, m, c, B, mb, cb, q, hc, hq⟩ := open_pg hf wt0
    exact ⟨A, m, c, B, mb, cb, q, Array.ext' (by simpa [Value.cells] using hc), hq⟩
  subst hcs0
  obtain ⟨cs1, rfl, hsz1⟩ := okWide_struct Tryz.underlying26 (hval 1 26 v1 rfl rfl)
  have k1 := h1
  have lt1 : ∀ x ∈ p1, x.block < W.heap.size := by obtain ⟨m, hm⟩ := k1; exact DataW.trod_lt m _ _ _ hm
  have wt1 : Wt d1 26 := fun n hn => by simpa using List.all_eq_true.1 hwt _ (DataW.weights_mem_each (j := 1) (t := 26) rfl rfl n hn)
  obtain ⟨A1, m1, c1, B1, mb1, cb1, q1, hcs1, hq1⟩ : ∃ A m c B mb cb q, cs1 = #[.slice A m c, .slice B mb cb] ∧ PgAr W A m c B mb cb q := by
    obtain ⟨fuel, hf⟩ := h1
    obtain ⟨A, m, c, B, mb, cb, q, hc, hq⟩ := open_pg hf wt1
    exact ⟨A, m, c, B, mb, cb, q, Array.ext' (by simpa [Value.cells] using hc), hq⟩
  subst hcs1
  clear hA0 hval0 hwt0
  refine (mixed_walk q0 q1 W A0 m0 c0 B0 mb0 cb0 A1 m1 c1 B1 mb1 cb1 (of_laid hL) hq0 hq1).mono fun e W' ⟨he, bel⟩ => ?_
  subst he
  exact ⟨_, rfl, _, _, _, [], _, [], hW', trodAll_mk1 (shut_bool Tryz.underlying4 _), (trodAll_cons_mk (Below.trod laidOut (by kernel_rfl) (of_decide_eq_true (by kernel_rfl)) k0 bel lt0) (trodAll_cons_mk (Below.trod laidOut (by kernel_rfl) (of_decide_eq_true (by kernel_rfl)) k1 bel lt1) trodAll_mk0)), rfl, bel.frame _, fun h => by cases h⟩

theorem over : Rows.syntaxMixedRow.holds Tryz.pinned (OpenSpec.ofChange Rows.syntaxMixedSpec) :=
  OpenClaim.holds_of_wide 12 Tryz.f12 rfl rfl rfl rfl rfl rfl rfl ⟨rfl, rfl, rfl, rfl, rfl⟩ rfl rfl rfl rfl rfl (by kernel_rfl) Tryz.func12 facts
    (of_decide_eq_true (by kernel_rfl)) (by unfold Func.isWrapper; first | (rw [if_pos (by decide +kernel)]; kernel_rfl) | (rw [if_neg (by decide +kernel)]; exact ⟨rfl, rfl⟩))
    (fun os started H enc _ => lifted os started H enc)

theorem row_holds : Rows.SyntaxMixedSaid :=
  over
theorem proved : Rows.SyntaxMixedCardSaid :=
  Claim7.holds_tied_plain_at .later [] [.data, .data, .data, .data, .data, .data, .data, .data, .data, .data] true (true, "ce271e314fe600a8ed30aced2d4a885a2809ef03c481705cd139da9ded2a76e2") false
    row_holds (fun _ h => by cases h) (by kernel_rfl) (fun _ h => by cases h) syntaxMixed_row_tie rfl ⟨rfl, rfl⟩ (by kernel_rfl) rfl
    (fun f fn hf hfn => by
      obtain rfl : f = 12 := Option.some.inj ((show Tryz.prog.funcNamed Rows.syntaxMixedRow.func = some 12 by kernel_rfl).symm.trans hf) |>.symm
      obtain rfl : fn = Tryz.f12 := (Option.some.inj (Tryz.func12.symm.trans hfn)).symm
      exact ⟨by kernel_rfl, fun j t ht => by
        rw [Tryz.params12] at ht
        have hm : t ∈ [26,26] := by simpa using Array.mem_of_getElem? ht
        have hall : ([26,26].all fun u => !Tryz.prog.wantsStandIn u) = true := by kernel_rfl
        exact (show Tryz.prog.wantsStandIn t = false by simpa using List.all_eq_true.1 hall t hm)⟩)
    (by kernel_rfl)
#print axioms proved
end Go.Proofs.YtbkhnilbgocpnaaGreatDoor.syntaxMixed
