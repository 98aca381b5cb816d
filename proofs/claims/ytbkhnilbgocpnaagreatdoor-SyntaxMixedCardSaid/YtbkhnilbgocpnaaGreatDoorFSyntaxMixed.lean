import Derived.Test.YtbkhnilbgocpnaaGreatDoorRows
import Derived.ProofKit
import Derived.ChangeOld
import Derived.SevenTiedAt
namespace Go.Proofs.YtbkhnilbgocpnaaGreatDoor.syntaxMixed
theorem facts : joinedFacts Tryz.prog 12 Tryz.f12 Rows.syntaxMixedSpec Rows.syntaxMixedRow = true := by kernel_rfl
end Go.Proofs.YtbkhnilbgocpnaaGreatDoor.syntaxMixed
