import Derived.Test.YtbkhnilbgocpnaaGreatDoorW25
import Derived.Test.YtbkhnilbgocpnaaGreatDoorW22
set_option linter.unusedVariables false
set_option linter.unusedSimpArgs false
namespace Go.Proofs.YtbkhnilbgocpnaaGreatDoor.SynC
open Go.Proofs.YtbkhnilbgocpnaaGreatDoor.LexC
open Go Go.ChangeShapes Go.WideShapes Go.ChangeAt Go.RowKit Go.Deep

theorem textE_ok {a : Ex} (h : validE a = true) : textE a = (wriE a, 0) := by unfold textE; rw [h]; rfl
theorem textE_bad {a : Ex} (h : validE a = false) : textE a = ([], 1) := by unfold textE; rw [h]; rfl
theorem exprs_bel (l : List Ex) (w : World) (most : Int) (A : Option Addr) (m c : Nat) (hs : SlE w (fun g => g < w.heap.size) (.slice A m c) l) (hg : rgEs l) (hll : l.length ≤ 1125899906842624) :
    Calls Tryz.prog 28 #[.slice A m c, .int .i64 most] w fun e' w' => e' = .returned (.int .i64 (cntL l most 0)) ∧ Below w.heap.size w w' :=
  (exprs_28 l w most A m c hs hg hll).mono fun e' w' ⟨h, n, hw⟩ => ⟨h, by rw [hw]; exact below_drewN (Below.refl _ _) n⟩
theorem one_sl {w : World} {nb : Nat} {fr : Nat × Nat} (ak ao an : Int) (ax : List UInt8) (aA : Option Addr) (am ac : Nat) {a : Ex} (hq : w.heap[nb]? = some (.cells #[.int .i64 ak, .int .i64 ao, .int .i32 an, .string (bs ax), .slice aA am ac] 34 fr)) (ha : RE w (fun g => g < w.heap.size) [.int .i64 ak, .int .i64 ao, .int .i32 an, .string (bs ax), .slice aA am ac] a) :
    SlE w (fun g => g < w.heap.size) (.slice (some ⟨nb, 0, none⟩) 1 1) [a] :=
  (sl_one (h := 0) ak ao an ax aA am ac hq (Nat.zero_le _) (RE.keeps (fun _ _ _ hu => hu) (fun _ hb => ⟨Nat.zero_le _, hb⟩) _ _ ha)).keeps (fun _ _ _ hu => hu) (fun _ hb => hb.2)
end Go.Proofs.YtbkhnilbgocpnaaGreatDoor.SynC
