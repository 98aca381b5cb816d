import Derived.Test.YtbkhnilbgocpnaaGreatDoorRows
import Derived.ProofKit
import Derived.ChangeOld
import Derived.SevenTiedAt
namespace Go.Proofs.YtbkhnilbgocpnaaGreatDoor.syntaxExprs
theorem facts : joinedFacts Tryz.prog 4 Tryz.f4 Rows.syntaxExprsSpec Rows.syntaxExprsRow = true := by kernel_rfl
end Go.Proofs.YtbkhnilbgocpnaaGreatDoor.syntaxExprs
