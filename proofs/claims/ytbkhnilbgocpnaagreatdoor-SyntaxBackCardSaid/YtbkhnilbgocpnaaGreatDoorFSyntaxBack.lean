import Derived.Test.YtbkhnilbgocpnaaGreatDoorRows
import Derived.ProofKit
import Derived.ChangeOld
import Derived.SevenTiedAt
namespace Go.Proofs.YtbkhnilbgocpnaaGreatDoor.syntaxBack
theorem facts : joinedFacts Tryz.prog 7 Tryz.f7 Rows.syntaxBackSpec Rows.syntaxBackRow = true := by kernel_rfl
end Go.Proofs.YtbkhnilbgocpnaaGreatDoor.syntaxBack
