import Derived.Test.YtbkhnilbgocpnaaGreatDoorRows
import Derived.ProofKit
import Derived.ChangeOld
import Derived.SevenTiedAt
namespace Go.Proofs.YtbkhnilbgocpnaaGreatDoor.syntaxTexts
theorem facts : joinedFacts Tryz.prog 5 Tryz.f5 Rows.syntaxTextsSpec Rows.syntaxTextsRow = true := by kernel_rfl
end Go.Proofs.YtbkhnilbgocpnaaGreatDoor.syntaxTexts
