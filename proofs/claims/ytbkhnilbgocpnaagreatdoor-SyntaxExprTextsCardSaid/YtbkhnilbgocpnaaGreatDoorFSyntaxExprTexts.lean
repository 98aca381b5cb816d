import Derived.Test.YtbkhnilbgocpnaaGreatDoorRows
import Derived.ProofKit
import Derived.ChangeOld
import Derived.SevenTiedAt
namespace Go.Proofs.YtbkhnilbgocpnaaGreatDoor.syntaxExprTexts
theorem facts : joinedFacts Tryz.prog 6 Tryz.f6 Rows.syntaxExprTextsSpec Rows.syntaxExprTextsRow = true := by kernel_rfl
end Go.Proofs.YtbkhnilbgocpnaaGreatDoor.syntaxExprTexts
