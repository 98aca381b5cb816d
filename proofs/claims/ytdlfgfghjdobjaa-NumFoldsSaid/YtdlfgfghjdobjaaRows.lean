/-
  No cell of these rows narrows 'for every input' (looked for: loops, veiled, ifaces, maps, wideKeys, modest, calm, conditions, laid).
  DERIVED. THE GIVEN ROWS OF THIS SEAT. 9 by the template 'for every input the law returns true; each argument reads behind the call as it read before'; 0 by the template 'total and deterministic' (their statements: YtdlfgfghjdobjaaTotals.lean).
  GIVEN WITH THE SEED: the statements are not yours to turn. If you find one false, say at which input.
  Laid BY PROGRAM, IN A SANDBOX (cutbox-rows.mjs): the forced cells as the released guide's own fill.sh prints them over the translation 6bf423a26562ee15… (all of the seat's roots in one cut). By AI agents, Wed Nov 11 2026. No macro, syntax, notation, axiom, sorry.
-/
import Derived.Test.YtdlfgfghjdobjaaChecked
import GoSem.Claim
import GoSem.ClaimJoined
import GoSem.ClaimMapViews
import Derived.JoinedTies
import Derived.KernelRfl
namespace Go.Proofs.Ytdlfgfghjdobjaa
/- THE CELL 'sum', in the pinned program and in every row, IS THE sha256 OF THE DUMP (.gsa) THAT YtdlfgfghjdobjaaProg.lean LOADS. Nothing in Lean hashes anything: it is a label: what it is worth is what the hold of that sum in a sandbox is worth. -/
noncomputable def Try.pinned : Pinned := { name := "ytdlfgfghjdobjaa", sum := "6bf423a26562ee153dc9227c7d8793ddfb734eea36c8c95488255529e01251d8", checked := Try.checked }
namespace Rows
def none {H : Type} : Left H := { results := [], args := [] }

/-- 'drawloomlaw01.NumBinary': WHATEVER THE INPUT: true; the input reads as it did. -/
def numBinarySpec : ChangeSpec := { name := "numBinary", fn := fun _ => fun
  | [d1, d2, d3] => { results := [.lit (.bool true)], args := [d1, d2, d3] }
  | _ => none }
def numBinaryRow : OpenClaim := { program := "ytdlfgfghjdobjaa", sum := "6bf423a26562ee153dc9227c7d8793ddfb734eea36c8c95488255529e01251d8", func := "drawloom/drawloomlaw01.NumBinary", spec := "numBinary", unfollowed := true, recurses := true, apart := false }
def NumBinarySaid : Prop := numBinaryRow.holds Try.pinned (OpenSpec.ofChange numBinarySpec)

/-- ITS FALSE NEIGHBOUR: 'it returns false'. Refute it at one input. -/
def numBinaryWrong : ChangeSpec := { name := "numBinary", fn := fun _ => fun
  | [d1, d2, d3] => { results := [.lit (.bool false)], args := [d1, d2, d3] }
  | _ => none }
def NumBinaryWrongFalsely : Prop := numBinaryRow.holds Try.pinned (OpenSpec.ofChange numBinaryWrong)

/-- 'drawloomlaw01.NumUnary': WHATEVER THE INPUT: true; the input reads as it did. -/
def numUnarySpec : ChangeSpec := { name := "numUnary", fn := fun _ => fun
  | [d1, d2] => { results := [.lit (.bool true)], args := [d1, d2] }
  | _ => none }
def numUnaryRow : OpenClaim := { program := "ytdlfgfghjdobjaa", sum := "6bf423a26562ee153dc9227c7d8793ddfb734eea36c8c95488255529e01251d8", func := "drawloom/drawloomlaw01.NumUnary", spec := "numUnary", unfollowed := true, recurses := true, apart := false }
def NumUnarySaid : Prop := numUnaryRow.holds Try.pinned (OpenSpec.ofChange numUnarySpec)

/-- ITS FALSE NEIGHBOUR: 'it returns false'. Refute it at one input. -/
def numUnaryWrong : ChangeSpec := { name := "numUnary", fn := fun _ => fun
  | [d1, d2] => { results := [.lit (.bool false)], args := [d1, d2] }
  | _ => none }
def NumUnaryWrongFalsely : Prop := numUnaryRow.holds Try.pinned (OpenSpec.ofChange numUnaryWrong)

/-- 'drawloomlaw01.NumFolds': WHATEVER THE INPUT: true; the input reads as it did. -/
def numFoldsSpec : ChangeSpec := { name := "numFolds", fn := fun _ => fun
  | [d1, d2] => { results := [.lit (.bool true)], args := [d1, d2] }
  | _ => none }
def numFoldsRow : OpenClaim := { program := "ytdlfgfghjdobjaa", sum := "6bf423a26562ee153dc9227c7d8793ddfb734eea36c8c95488255529e01251d8", func := "drawloom/drawloomlaw01.NumFolds", spec := "numFolds", unfollowed := true, recurses := true, apart := false }
def NumFoldsSaid : Prop := numFoldsRow.holds Try.pinned (OpenSpec.ofChange numFoldsSpec)

/-- ITS FALSE NEIGHBOUR: 'it returns false'. Refute it at one input. -/
def numFoldsWrong : ChangeSpec := { name := "numFolds", fn := fun _ => fun
  | [d1, d2] => { results := [.lit (.bool false)], args := [d1, d2] }
  | _ => none }
def NumFoldsWrongFalsely : Prop := numFoldsRow.holds Try.pinned (OpenSpec.ofChange numFoldsWrong)

/-- 'drawloomlaw01.NumRing': WHATEVER THE INPUT: true; the input reads as it did. -/
def numRingSpec : ChangeSpec := { name := "numRing", fn := fun _ => fun
  | [d1, d2, d3] => { results := [.lit (.bool true)], args := [d1, d2, d3] }
  | _ => none }
def numRingRow : OpenClaim := { program := "ytdlfgfghjdobjaa", sum := "6bf423a26562ee153dc9227c7d8793ddfb734eea36c8c95488255529e01251d8", func := "drawloom/drawloomlaw01.NumRing", spec := "numRing", unfollowed := true, recurses := true, apart := false }
def NumRingSaid : Prop := numRingRow.holds Try.pinned (OpenSpec.ofChange numRingSpec)

/-- ITS FALSE NEIGHBOUR: 'it returns false'. Refute it at one input. -/
def numRingWrong : ChangeSpec := { name := "numRing", fn := fun _ => fun
  | [d1, d2, d3] => { results := [.lit (.bool false)], args := [d1, d2, d3] }
  | _ => none }
def NumRingWrongFalsely : Prop := numRingRow.holds Try.pinned (OpenSpec.ofChange numRingWrong)

/-- 'drawloomlaw01.NumDivides': WHATEVER THE INPUT: true; the input reads as it did. -/
def numDividesSpec : ChangeSpec := { name := "numDivides", fn := fun _ => fun
  | [d1, d2] => { results := [.lit (.bool true)], args := [d1, d2] }
  | _ => none }
def numDividesRow : OpenClaim := { program := "ytdlfgfghjdobjaa", sum := "6bf423a26562ee153dc9227c7d8793ddfb734eea36c8c95488255529e01251d8", func := "drawloom/drawloomlaw01.NumDivides", spec := "numDivides", unfollowed := true, recurses := true, apart := false }
def NumDividesSaid : Prop := numDividesRow.holds Try.pinned (OpenSpec.ofChange numDividesSpec)

/-- ITS FALSE NEIGHBOUR: 'it returns false'. Refute it at one input. -/
def numDividesWrong : ChangeSpec := { name := "numDivides", fn := fun _ => fun
  | [d1, d2] => { results := [.lit (.bool false)], args := [d1, d2] }
  | _ => none }
def NumDividesWrongFalsely : Prop := numDividesRow.holds Try.pinned (OpenSpec.ofChange numDividesWrong)

/-- 'drawloomlaw01.NumBits': WHATEVER THE INPUT: true; the input reads as it did. -/
def numBitsSpec : ChangeSpec := { name := "numBits", fn := fun _ => fun
  | [d1, d2] => { results := [.lit (.bool true)], args := [d1, d2] }
  | _ => none }
def numBitsRow : OpenClaim := { program := "ytdlfgfghjdobjaa", sum := "6bf423a26562ee153dc9227c7d8793ddfb734eea36c8c95488255529e01251d8", func := "drawloom/drawloomlaw01.NumBits", spec := "numBits", unfollowed := true, recurses := true, apart := false }
def NumBitsSaid : Prop := numBitsRow.holds Try.pinned (OpenSpec.ofChange numBitsSpec)

/-- ITS FALSE NEIGHBOUR: 'it returns false'. Refute it at one input. -/
def numBitsWrong : ChangeSpec := { name := "numBits", fn := fun _ => fun
  | [d1, d2] => { results := [.lit (.bool false)], args := [d1, d2] }
  | _ => none }
def NumBitsWrongFalsely : Prop := numBitsRow.holds Try.pinned (OpenSpec.ofChange numBitsWrong)

/-- 'drawloomlaw01.NumOrder': WHATEVER THE INPUT: true; the input reads as it did. -/
def numOrderSpec : ChangeSpec := { name := "numOrder", fn := fun _ => fun
  | [d1, d2] => { results := [.lit (.bool true)], args := [d1, d2] }
  | _ => none }
def numOrderRow : OpenClaim := { program := "ytdlfgfghjdobjaa", sum := "6bf423a26562ee153dc9227c7d8793ddfb734eea36c8c95488255529e01251d8", func := "drawloom/drawloomlaw01.NumOrder", spec := "numOrder", unfollowed := true, recurses := true, apart := false }
def NumOrderSaid : Prop := numOrderRow.holds Try.pinned (OpenSpec.ofChange numOrderSpec)

/-- ITS FALSE NEIGHBOUR: 'it returns false'. Refute it at one input. -/
def numOrderWrong : ChangeSpec := { name := "numOrder", fn := fun _ => fun
  | [d1, d2] => { results := [.lit (.bool false)], args := [d1, d2] }
  | _ => none }
def NumOrderWrongFalsely : Prop := numOrderRow.holds Try.pinned (OpenSpec.ofChange numOrderWrong)

/-- 'drawloomlaw01.NumFold': WHATEVER THE INPUT: true; the input reads as it did. -/
def numFoldSpec : ChangeSpec := { name := "numFold", fn := fun _ => fun
  | [d1, d2, d3, d4, d5, d6] => { results := [.lit (.bool true)], args := [d1, d2, d3, d4, d5, d6] }
  | _ => none }
def numFoldRow : OpenClaim := { program := "ytdlfgfghjdobjaa", sum := "6bf423a26562ee153dc9227c7d8793ddfb734eea36c8c95488255529e01251d8", func := "drawloom/drawloomlaw01.NumFold", spec := "numFold", unfollowed := true, recurses := true, apart := false }
def NumFoldSaid : Prop := numFoldRow.holds Try.pinned (OpenSpec.ofChange numFoldSpec)

/-- ITS FALSE NEIGHBOUR: 'it returns false'. Refute it at one input. -/
def numFoldWrong : ChangeSpec := { name := "numFold", fn := fun _ => fun
  | [d1, d2, d3, d4, d5, d6] => { results := [.lit (.bool false)], args := [d1, d2, d3, d4, d5, d6] }
  | _ => none }
def NumFoldWrongFalsely : Prop := numFoldRow.holds Try.pinned (OpenSpec.ofChange numFoldWrong)

/-- 'drawloomlaw01.NumCommutes': WHATEVER THE INPUT: true; the input reads as it did. -/
def numCommutesSpec : ChangeSpec := { name := "numCommutes", fn := fun _ => fun
  | [d1, d2, d3] => { results := [.lit (.bool true)], args := [d1, d2, d3] }
  | _ => none }
def numCommutesRow : OpenClaim := { program := "ytdlfgfghjdobjaa", sum := "6bf423a26562ee153dc9227c7d8793ddfb734eea36c8c95488255529e01251d8", func := "drawloom/drawloomlaw01.NumCommutes", spec := "numCommutes", unfollowed := true, recurses := true, apart := false }
def NumCommutesSaid : Prop := numCommutesRow.holds Try.pinned (OpenSpec.ofChange numCommutesSpec)

/-- ITS FALSE NEIGHBOUR: 'it returns false'. Refute it at one input. -/
def numCommutesWrong : ChangeSpec := { name := "numCommutes", fn := fun _ => fun
  | [d1, d2, d3] => { results := [.lit (.bool false)], args := [d1, d2, d3] }
  | _ => none }
def NumCommutesWrongFalsely : Prop := numCommutesRow.holds Try.pinned (OpenSpec.ofChange numCommutesWrong)

/- THE SECOND FORM. 'bulk': how many values and letters a reading holds, each counted each time it is reached (what is shared counts as often as it is met; a slice's spare places count too). A statement '..UptoSaid' is the law's where the arguments, and the package variables that the reading takes, are together of bulk at most 1048576: NARROWER than '..Said'. Prove '..Said' where nothing that the law and all that it calls make is longer than what came in: it says more and counts as full. Else prove '..UptoSaid'. A law counts once. -/
mutual
def uptoBulk {H : Type} : DataW H → Nat
  | .lit (.string bytes) => bytes.length + 1
  | .lit _ => 1
  | .nil => 1
  | .ptr d => uptoBulk d + 1
  | .slice elems spare => uptoBulkAll elems + uptoBulkAll spare + 1
  | .agg parts => uptoBulkAll parts + 1
  | .iface _ d => uptoBulk d + 1
  | .map entries => uptoBulkEntries entries + 1
  | .held _ => 1
def uptoBulkAll {H : Type} : List (DataW H) → Nat
  | [] => 0
  | d :: r => uptoBulk d + uptoBulkAll r
def uptoBulkEntries {H : Type} : List (Lit × DataW H) → Nat
  | [] => 0
  | x :: r => uptoBulkEntry x + uptoBulkEntries r
def uptoBulkEntry {H : Type} : Lit × DataW H → Nat
  | (.string bytes, d) => bytes.length + uptoBulk d + 1
  | (_, d) => uptoBulk d + 1
 end
def uptoSmall : (H : Type) → List (DataW H) → Bool := fun _ ds => decide (uptoBulkAll ds ≤ 1048576)
def OpenSpec.upto (s : _root_.Go.ChangeSpec) : _root_.Go.OpenSpec := { _root_.Go.OpenSpec.ofChange s with cond := some uptoSmall }

/-- 'drawloomlaw01.NumBinary', WHERE WHAT IT READS IS OF BULK AT MOST 1048576: true; the input reads as it did. -/
def numBinaryUptoRow : OpenClaim := { program := "ytdlfgfghjdobjaa", sum := "6bf423a26562ee153dc9227c7d8793ddfb734eea36c8c95488255529e01251d8", func := "drawloom/drawloomlaw01.NumBinary", spec := "numBinary", unfollowed := true, recurses := true, apart := false, narrowed := true }
def NumBinaryUptoSaid : Prop := numBinaryUptoRow.holds Try.pinned (OpenSpec.upto numBinarySpec)

/-- 'drawloomlaw01.NumUnary', WHERE WHAT IT READS IS OF BULK AT MOST 1048576: true; the input reads as it did. -/
def numUnaryUptoRow : OpenClaim := { program := "ytdlfgfghjdobjaa", sum := "6bf423a26562ee153dc9227c7d8793ddfb734eea36c8c95488255529e01251d8", func := "drawloom/drawloomlaw01.NumUnary", spec := "numUnary", unfollowed := true, recurses := true, apart := false, narrowed := true }
def NumUnaryUptoSaid : Prop := numUnaryUptoRow.holds Try.pinned (OpenSpec.upto numUnarySpec)

/-- 'drawloomlaw01.NumFolds', WHERE WHAT IT READS IS OF BULK AT MOST 1048576: true; the input reads as it did. -/
def numFoldsUptoRow : OpenClaim := { program := "ytdlfgfghjdobjaa", sum := "6bf423a26562ee153dc9227c7d8793ddfb734eea36c8c95488255529e01251d8", func := "drawloom/drawloomlaw01.NumFolds", spec := "numFolds", unfollowed := true, recurses := true, apart := false, narrowed := true }
def NumFoldsUptoSaid : Prop := numFoldsUptoRow.holds Try.pinned (OpenSpec.upto numFoldsSpec)

/-- 'drawloomlaw01.NumRing', WHERE WHAT IT READS IS OF BULK AT MOST 1048576: true; the input reads as it did. -/
def numRingUptoRow : OpenClaim := { program := "ytdlfgfghjdobjaa", sum := "6bf423a26562ee153dc9227c7d8793ddfb734eea36c8c95488255529e01251d8", func := "drawloom/drawloomlaw01.NumRing", spec := "numRing", unfollowed := true, recurses := true, apart := false, narrowed := true }
def NumRingUptoSaid : Prop := numRingUptoRow.holds Try.pinned (OpenSpec.upto numRingSpec)

/-- 'drawloomlaw01.NumDivides', WHERE WHAT IT READS IS OF BULK AT MOST 1048576: true; the input reads as it did. -/
def numDividesUptoRow : OpenClaim := { program := "ytdlfgfghjdobjaa", sum := "6bf423a26562ee153dc9227c7d8793ddfb734eea36c8c95488255529e01251d8", func := "drawloom/drawloomlaw01.NumDivides", spec := "numDivides", unfollowed := true, recurses := true, apart := false, narrowed := true }
def NumDividesUptoSaid : Prop := numDividesUptoRow.holds Try.pinned (OpenSpec.upto numDividesSpec)

/-- 'drawloomlaw01.NumBits', WHERE WHAT IT READS IS OF BULK AT MOST 1048576: true; the input reads as it did. -/
def numBitsUptoRow : OpenClaim := { program := "ytdlfgfghjdobjaa", sum := "6bf423a26562ee153dc9227c7d8793ddfb734eea36c8c95488255529e01251d8", func := "drawloom/drawloomlaw01.NumBits", spec := "numBits", unfollowed := true, recurses := true, apart := false, narrowed := true }
def NumBitsUptoSaid : Prop := numBitsUptoRow.holds Try.pinned (OpenSpec.upto numBitsSpec)

/-- 'drawloomlaw01.NumOrder', WHERE WHAT IT READS IS OF BULK AT MOST 1048576: true; the input reads as it did. -/
def numOrderUptoRow : OpenClaim := { program := "ytdlfgfghjdobjaa", sum := "6bf423a26562ee153dc9227c7d8793ddfb734eea36c8c95488255529e01251d8", func := "drawloom/drawloomlaw01.NumOrder", spec := "numOrder", unfollowed := true, recurses := true, apart := false, narrowed := true }
def NumOrderUptoSaid : Prop := numOrderUptoRow.holds Try.pinned (OpenSpec.upto numOrderSpec)

/-- 'drawloomlaw01.NumFold', WHERE WHAT IT READS IS OF BULK AT MOST 1048576: true; the input reads as it did. -/
def numFoldUptoRow : OpenClaim := { program := "ytdlfgfghjdobjaa", sum := "6bf423a26562ee153dc9227c7d8793ddfb734eea36c8c95488255529e01251d8", func := "drawloom/drawloomlaw01.NumFold", spec := "numFold", unfollowed := true, recurses := true, apart := false, narrowed := true }
def NumFoldUptoSaid : Prop := numFoldUptoRow.holds Try.pinned (OpenSpec.upto numFoldSpec)

/-- 'drawloomlaw01.NumCommutes', WHERE WHAT IT READS IS OF BULK AT MOST 1048576: true; the input reads as it did. -/
def numCommutesUptoRow : OpenClaim := { program := "ytdlfgfghjdobjaa", sum := "6bf423a26562ee153dc9227c7d8793ddfb734eea36c8c95488255529e01251d8", func := "drawloom/drawloomlaw01.NumCommutes", spec := "numCommutes", unfollowed := true, recurses := true, apart := false, narrowed := true }
def NumCommutesUptoSaid : Prop := numCommutesUptoRow.holds Try.pinned (OpenSpec.upto numCommutesSpec)

end Rows
end Go.Proofs.Ytdlfgfghjdobjaa
