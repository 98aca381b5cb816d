/-
  NARROWER THAN 'FOR EVERY INPUT', by the rows' own cells (each row's printed sentence says how): LexTokens: laid · LexNames: laid · LexJoins: laid · LexBack: laid · LexCovers: laid · LexLongest: laid · LexBlanks: laid.
  DERIVED. THE GIVEN ROWS OF THIS SEAT. 7 by the template 'for every input the law returns true; each argument reads behind the call as it read before'; 0 by the template 'total and deterministic' (their statements: YtlpmeodphjpmeaaDoorTotals.lean).
  GIVEN WITH THE SEED: the statements are not yours to turn. If you find one false, say at which input.
  Laid BY PROGRAM, IN A SANDBOX (cutbox-rows.mjs): the forced cells as the released guide's own fill.sh prints them over the translation 87fc809561489479… (all of the seat's roots in one cut). By AI agents, Wed Nov 11 2026. No macro, syntax, notation, axiom, sorry.
-/
import Derived.Test.YtlpmeodphjpmeaaDoorChecked
import GoSem.Claim
import GoSem.ClaimJoined
import GoSem.ClaimMapViews
import Derived.JoinedTies
import Derived.KernelRfl
namespace Go.Proofs.YtlpmeodphjpmeaaDoor
/- THE CELL 'sum', in the pinned program and in every row, IS THE sha256 OF THE DUMP (.gsa) THAT YtlpmeodphjpmeaaDoorProg.lean LOADS. Nothing in Lean hashes anything: it is a label: what it is worth is what the hold of that sum in a sandbox is worth. -/
noncomputable def Tryd.pinned : Pinned := { name := "ytlpmeodphjpmeaadoor", sum := "87fc8095614894797c1086dd936db0826039b8da88c02d982eeb41cb7dae3c08", checked := Tryd.checked }
namespace Rows
def none {H : Type} : Left H := { results := [], args := [] }

/- WHAT THE LISTED PACKAGE-LEVEL VARIABLES READ AS WHEN THE CALL BEGINS. Each datum BY PROGRAM (the guide's laid-datum.mjs) off the statement by which the dump's own 'gosem.cut.vars' lays the variable. In a bare row this is a premise. The card (YtlpmeodphjpmeaaDoorCards.lean) ties it to the program's text. -/
def laid_drawloom_lex_signs {H : Type} : DataW H := .agg [.lit (.string [62, 62, 62]), .lit (.string [60, 60]), .lit (.string [62, 62]), .lit (.string [60, 61]), .lit (.string [62, 61]), .lit (.string [61, 61]), .lit (.string [33, 61]), .lit (.string [60, 58]), .lit (.string [38, 38]), .lit (.string [124, 124]), .lit (.string [40]), .lit (.string [41]), .lit (.string [123]), .lit (.string [125]), .lit (.string [91]), .lit (.string [93]), .lit (.string [44]), .lit (.string [59]), .lit (.string [61]), .lit (.string [43]), .lit (.string [45]), .lit (.string [42]), .lit (.string [47]), .lit (.string [37]), .lit (.string [38]), .lit (.string [124]), .lit (.string [94]), .lit (.string [126]), .lit (.string [33]), .lit (.string [60]), .lit (.string [62])]

/-- 'drawloomlaw02.LexTokens': WHATEVER THE INPUT: true; the input reads as it did. -/
def lexTokensSpec : ChangeSpec := { name := "lexTokens", fn := fun _ => fun
  | [d] => { results := [.lit (.bool true)], args := [d] }
  | _ => none }
def lexTokensRow : OpenClaim := { program := "ytlpmeodphjpmeaadoor", sum := "87fc8095614894797c1086dd936db0826039b8da88c02d982eeb41cb7dae3c08", func := "drawloom/drawloomlaw02.LexTokens", spec := "lexTokens", unfollowed := true, recurses := true, named := ["drawloom/lex.signs"], apart := false, laid := [("drawloom/lex.signs", laid_drawloom_lex_signs)] }
def LexTokensSaid : Prop := lexTokensRow.holds Tryd.pinned (OpenSpec.ofChange lexTokensSpec)

/-- ITS FALSE NEIGHBOUR: 'it returns false'. Refute it at one input. -/
def lexTokensWrong : ChangeSpec := { name := "lexTokens", fn := fun _ => fun
  | [d] => { results := [.lit (.bool false)], args := [d] }
  | _ => none }
def LexTokensWrongFalsely : Prop := lexTokensRow.holds Tryd.pinned (OpenSpec.ofChange lexTokensWrong)

/-- 'drawloomlaw02.LexNames': WHATEVER THE INPUT: true; the input reads as it did. -/
def lexNamesSpec : ChangeSpec := { name := "lexNames", fn := fun _ => fun
  | [d] => { results := [.lit (.bool true)], args := [d] }
  | _ => none }
def lexNamesRow : OpenClaim := { program := "ytlpmeodphjpmeaadoor", sum := "87fc8095614894797c1086dd936db0826039b8da88c02d982eeb41cb7dae3c08", func := "drawloom/drawloomlaw02.LexNames", spec := "lexNames", unfollowed := true, recurses := true, named := ["drawloom/lex.signs"], apart := false, laid := [("drawloom/lex.signs", laid_drawloom_lex_signs)] }
def LexNamesSaid : Prop := lexNamesRow.holds Tryd.pinned (OpenSpec.ofChange lexNamesSpec)

/-- ITS FALSE NEIGHBOUR: 'it returns false'. Refute it at one input. -/
def lexNamesWrong : ChangeSpec := { name := "lexNames", fn := fun _ => fun
  | [d] => { results := [.lit (.bool false)], args := [d] }
  | _ => none }
def LexNamesWrongFalsely : Prop := lexNamesRow.holds Tryd.pinned (OpenSpec.ofChange lexNamesWrong)

/-- 'drawloomlaw02.LexJoins': WHATEVER THE INPUT: true; the input reads as it did. -/
def lexJoinsSpec : ChangeSpec := { name := "lexJoins", fn := fun _ => fun
  | [d] => { results := [.lit (.bool true)], args := [d] }
  | _ => none }
def lexJoinsRow : OpenClaim := { program := "ytlpmeodphjpmeaadoor", sum := "87fc8095614894797c1086dd936db0826039b8da88c02d982eeb41cb7dae3c08", func := "drawloom/drawloomlaw02.LexJoins", spec := "lexJoins", unfollowed := true, recurses := true, named := ["drawloom/lex.signs"], apart := false, laid := [("drawloom/lex.signs", laid_drawloom_lex_signs)] }
def LexJoinsSaid : Prop := lexJoinsRow.holds Tryd.pinned (OpenSpec.ofChange lexJoinsSpec)

/-- ITS FALSE NEIGHBOUR: 'it returns false'. Refute it at one input. -/
def lexJoinsWrong : ChangeSpec := { name := "lexJoins", fn := fun _ => fun
  | [d] => { results := [.lit (.bool false)], args := [d] }
  | _ => none }
def LexJoinsWrongFalsely : Prop := lexJoinsRow.holds Tryd.pinned (OpenSpec.ofChange lexJoinsWrong)

/-- 'drawloomlaw02.LexBack': WHATEVER THE INPUT: true; the input reads as it did. -/
def lexBackSpec : ChangeSpec := { name := "lexBack", fn := fun _ => fun
  | [d] => { results := [.lit (.bool true)], args := [d] }
  | _ => none }
def lexBackRow : OpenClaim := { program := "ytlpmeodphjpmeaadoor", sum := "87fc8095614894797c1086dd936db0826039b8da88c02d982eeb41cb7dae3c08", func := "drawloom/drawloomlaw02.LexBack", spec := "lexBack", unfollowed := true, recurses := true, named := ["drawloom/lex.signs"], apart := false, laid := [("drawloom/lex.signs", laid_drawloom_lex_signs)] }
def LexBackSaid : Prop := lexBackRow.holds Tryd.pinned (OpenSpec.ofChange lexBackSpec)

/-- ITS FALSE NEIGHBOUR: 'it returns false'. Refute it at one input. -/
def lexBackWrong : ChangeSpec := { name := "lexBack", fn := fun _ => fun
  | [d] => { results := [.lit (.bool false)], args := [d] }
  | _ => none }
def LexBackWrongFalsely : Prop := lexBackRow.holds Tryd.pinned (OpenSpec.ofChange lexBackWrong)

/-- 'drawloomlaw02.LexCovers': WHATEVER THE INPUT: true; the input reads as it did. -/
def lexCoversSpec : ChangeSpec := { name := "lexCovers", fn := fun _ => fun
  | [d] => { results := [.lit (.bool true)], args := [d] }
  | _ => none }
def lexCoversRow : OpenClaim := { program := "ytlpmeodphjpmeaadoor", sum := "87fc8095614894797c1086dd936db0826039b8da88c02d982eeb41cb7dae3c08", func := "drawloom/drawloomlaw02.LexCovers", spec := "lexCovers", unfollowed := true, recurses := true, named := ["drawloom/lex.signs"], apart := false, laid := [("drawloom/lex.signs", laid_drawloom_lex_signs)] }
def LexCoversSaid : Prop := lexCoversRow.holds Tryd.pinned (OpenSpec.ofChange lexCoversSpec)

/-- ITS FALSE NEIGHBOUR: 'it returns false'. Refute it at one input. -/
def lexCoversWrong : ChangeSpec := { name := "lexCovers", fn := fun _ => fun
  | [d] => { results := [.lit (.bool false)], args := [d] }
  | _ => none }
def LexCoversWrongFalsely : Prop := lexCoversRow.holds Tryd.pinned (OpenSpec.ofChange lexCoversWrong)

/-- 'drawloomlaw02.LexLongest': WHATEVER THE INPUT: true; the input reads as it did. -/
def lexLongestSpec : ChangeSpec := { name := "lexLongest", fn := fun _ => fun
  | [d] => { results := [.lit (.bool true)], args := [d] }
  | _ => none }
def lexLongestRow : OpenClaim := { program := "ytlpmeodphjpmeaadoor", sum := "87fc8095614894797c1086dd936db0826039b8da88c02d982eeb41cb7dae3c08", func := "drawloom/drawloomlaw02.LexLongest", spec := "lexLongest", unfollowed := true, recurses := true, named := ["drawloom/lex.signs"], apart := false, laid := [("drawloom/lex.signs", laid_drawloom_lex_signs)] }
def LexLongestSaid : Prop := lexLongestRow.holds Tryd.pinned (OpenSpec.ofChange lexLongestSpec)

/-- ITS FALSE NEIGHBOUR: 'it returns false'. Refute it at one input. -/
def lexLongestWrong : ChangeSpec := { name := "lexLongest", fn := fun _ => fun
  | [d] => { results := [.lit (.bool false)], args := [d] }
  | _ => none }
def LexLongestWrongFalsely : Prop := lexLongestRow.holds Tryd.pinned (OpenSpec.ofChange lexLongestWrong)

/-- 'drawloomlaw02.LexBlanks': WHATEVER THE INPUT: true; the input reads as it did. -/
def lexBlanksSpec : ChangeSpec := { name := "lexBlanks", fn := fun _ => fun
  | [d1, d2] => { results := [.lit (.bool true)], args := [d1, d2] }
  | _ => none }
def lexBlanksRow : OpenClaim := { program := "ytlpmeodphjpmeaadoor", sum := "87fc8095614894797c1086dd936db0826039b8da88c02d982eeb41cb7dae3c08", func := "drawloom/drawloomlaw02.LexBlanks", spec := "lexBlanks", unfollowed := true, recurses := true, named := ["drawloom/lex.signs"], apart := false, laid := [("drawloom/lex.signs", laid_drawloom_lex_signs)] }
def LexBlanksSaid : Prop := lexBlanksRow.holds Tryd.pinned (OpenSpec.ofChange lexBlanksSpec)

/-- ITS FALSE NEIGHBOUR: 'it returns false'. Refute it at one input. -/
def lexBlanksWrong : ChangeSpec := { name := "lexBlanks", fn := fun _ => fun
  | [d1, d2] => { results := [.lit (.bool false)], args := [d1, d2] }
  | _ => none }
def LexBlanksWrongFalsely : Prop := lexBlanksRow.holds Tryd.pinned (OpenSpec.ofChange lexBlanksWrong)

/- THE SECOND FORM. 'bulk': how many values and letters a reading holds, each counted each time it is reached (what is shared counts as often as it is met; a slice's spare places count too). A statement '..UptoSaid' is the law's where the arguments, and the package variables that the reading takes, are together of bulk at most 1048576: NARROWER than '..Said'. Prove '..Said' where nothing that the law and all that it calls make is longer than what came in: it says more and counts as full. Else prove '..UptoSaid'. A law counts once. -/
mutual
def uptoBulk {H : Type} : DataW H → Nat
  | .lit (.string bytes) => bytes.length + 1
  | .lit _ => 1
  | .nil => 1
  | .ptr d => uptoBulk d + 1
  | .slice elems spare => uptoBulkAll elems + uptoBulkAll spare + 1
  | .agg parts => uptoBulkAll parts + 1
  | .iface _ d => uptoBulk d + 1
  | .map entries => uptoBulkEntries entries + 1
  | .held _ => 1
def uptoBulkAll {H : Type} : List (DataW H) → Nat
  | [] => 0
  | d :: r => uptoBulk d + uptoBulkAll r
def uptoBulkEntries {H : Type} : List (Lit × DataW H) → Nat
  | [] => 0
  | x :: r => uptoBulkEntry x + uptoBulkEntries r
def uptoBulkEntry {H : Type} : Lit × DataW H → Nat
  | (.string bytes, d) => bytes.length + uptoBulk d + 1
  | (_, d) => uptoBulk d + 1
 end
def uptoSmall : (H : Type) → List (DataW H) → Bool := fun _ ds => decide (uptoBulkAll ds ≤ 1048576)
def OpenSpec.upto (s : _root_.Go.ChangeSpec) : _root_.Go.OpenSpec := { _root_.Go.OpenSpec.ofChange s with cond := some uptoSmall }

/-- 'drawloomlaw02.LexTokens', WHERE WHAT IT READS IS OF BULK AT MOST 1048576: true; the input reads as it did. -/
def lexTokensUptoRow : OpenClaim := { program := "ytlpmeodphjpmeaadoor", sum := "87fc8095614894797c1086dd936db0826039b8da88c02d982eeb41cb7dae3c08", func := "drawloom/drawloomlaw02.LexTokens", spec := "lexTokens", unfollowed := true, recurses := true, named := ["drawloom/lex.signs"], apart := false, laid := [("drawloom/lex.signs", laid_drawloom_lex_signs)], narrowed := true }
def LexTokensUptoSaid : Prop := lexTokensUptoRow.holds Tryd.pinned (OpenSpec.upto lexTokensSpec)

/-- 'drawloomlaw02.LexNames', WHERE WHAT IT READS IS OF BULK AT MOST 1048576: true; the input reads as it did. -/
def lexNamesUptoRow : OpenClaim := { program := "ytlpmeodphjpmeaadoor", sum := "87fc8095614894797c1086dd936db0826039b8da88c02d982eeb41cb7dae3c08", func := "drawloom/drawloomlaw02.LexNames", spec := "lexNames", unfollowed := true, recurses := true, named := ["drawloom/lex.signs"], apart := false, laid := [("drawloom/lex.signs", laid_drawloom_lex_signs)], narrowed := true }
def LexNamesUptoSaid : Prop := lexNamesUptoRow.holds Tryd.pinned (OpenSpec.upto lexNamesSpec)

/-- 'drawloomlaw02.LexJoins', WHERE WHAT IT READS IS OF BULK AT MOST 1048576: true; the input reads as it did. -/
def lexJoinsUptoRow : OpenClaim := { program := "ytlpmeodphjpmeaadoor", sum := "87fc8095614894797c1086dd936db0826039b8da88c02d982eeb41cb7dae3c08", func := "drawloom/drawloomlaw02.LexJoins", spec := "lexJoins", unfollowed := true, recurses := true, named := ["drawloom/lex.signs"], apart := false, laid := [("drawloom/lex.signs", laid_drawloom_lex_signs)], narrowed := true }
def LexJoinsUptoSaid : Prop := lexJoinsUptoRow.holds Tryd.pinned (OpenSpec.upto lexJoinsSpec)

/-- 'drawloomlaw02.LexBack', WHERE WHAT IT READS IS OF BULK AT MOST 1048576: true; the input reads as it did. -/
def lexBackUptoRow : OpenClaim := { program := "ytlpmeodphjpmeaadoor", sum := "87fc8095614894797c1086dd936db0826039b8da88c02d982eeb41cb7dae3c08", func := "drawloom/drawloomlaw02.LexBack", spec := "lexBack", unfollowed := true, recurses := true, named := ["drawloom/lex.signs"], apart := false, laid := [("drawloom/lex.signs", laid_drawloom_lex_signs)], narrowed := true }
def LexBackUptoSaid : Prop := lexBackUptoRow.holds Tryd.pinned (OpenSpec.upto lexBackSpec)

/-- 'drawloomlaw02.LexCovers', WHERE WHAT IT READS IS OF BULK AT MOST 1048576: true; the input reads as it did. -/
def lexCoversUptoRow : OpenClaim := { program := "ytlpmeodphjpmeaadoor", sum := "87fc8095614894797c1086dd936db0826039b8da88c02d982eeb41cb7dae3c08", func := "drawloom/drawloomlaw02.LexCovers", spec := "lexCovers", unfollowed := true, recurses := true, named := ["drawloom/lex.signs"], apart := false, laid := [("drawloom/lex.signs", laid_drawloom_lex_signs)], narrowed := true }
def LexCoversUptoSaid : Prop := lexCoversUptoRow.holds Tryd.pinned (OpenSpec.upto lexCoversSpec)

/-- 'drawloomlaw02.LexLongest', WHERE WHAT IT READS IS OF BULK AT MOST 1048576: true; the input reads as it did. -/
def lexLongestUptoRow : OpenClaim := { program := "ytlpmeodphjpmeaadoor", sum := "87fc8095614894797c1086dd936db0826039b8da88c02d982eeb41cb7dae3c08", func := "drawloom/drawloomlaw02.LexLongest", spec := "lexLongest", unfollowed := true, recurses := true, named := ["drawloom/lex.signs"], apart := false, laid := [("drawloom/lex.signs", laid_drawloom_lex_signs)], narrowed := true }
def LexLongestUptoSaid : Prop := lexLongestUptoRow.holds Tryd.pinned (OpenSpec.upto lexLongestSpec)

/-- 'drawloomlaw02.LexBlanks', WHERE WHAT IT READS IS OF BULK AT MOST 1048576: true; the input reads as it did. -/
def lexBlanksUptoRow : OpenClaim := { program := "ytlpmeodphjpmeaadoor", sum := "87fc8095614894797c1086dd936db0826039b8da88c02d982eeb41cb7dae3c08", func := "drawloom/drawloomlaw02.LexBlanks", spec := "lexBlanks", unfollowed := true, recurses := true, named := ["drawloom/lex.signs"], apart := false, laid := [("drawloom/lex.signs", laid_drawloom_lex_signs)], narrowed := true }
def LexBlanksUptoSaid : Prop := lexBlanksUptoRow.holds Tryd.pinned (OpenSpec.upto lexBlanksSpec)

end Rows
end Go.Proofs.YtlpmeodphjpmeaaDoor
