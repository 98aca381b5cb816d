/-
  NARROWER THAN 'FOR EVERY INPUT', by the rows' own cells (each row's printed sentence says how): SyntaxParses: laid · SyntaxExprs: laid · SyntaxTexts: loops, laid · SyntaxExprTexts: loops, laid · SyntaxBack: loops, laid · SyntaxAgain: laid · SyntaxBlanks: laid · SyntaxLevels: laid · SyntaxWhere: laid · SyntaxMixed: loops, laid · SyntaxNames: laid.
  DERIVED. THE GIVEN ROWS OF THIS SEAT. 11 by the template 'for every input the law returns true; each argument reads behind the call as it read before'; 0 by the template 'total and deterministic' (their statements: YtbkhnilbgocpnaaGreatDoorTotals.lean).
  GIVEN WITH THE SEED: the statements are not yours to turn. If you find one false, say at which input.
  Laid BY PROGRAM, IN A SANDBOX (cutbox-rows.mjs): the forced cells as the released guide's own fill.sh prints them over the translation 2c3fce9a69243957… (all of the seat's roots in one cut). By AI agents, Wed Nov 11 2026. No macro, syntax, notation, axiom, sorry.
-/
import Derived.Test.YtbkhnilbgocpnaaGreatDoorChecked
import GoSem.Claim
import GoSem.ClaimJoined
import GoSem.ClaimMapViews
import Derived.JoinedTies
import Derived.KernelRfl
namespace Go.Proofs.YtbkhnilbgocpnaaGreatDoor
/- THE CELL 'sum', in the pinned program and in every row, IS THE sha256 OF THE DUMP (.gsa) THAT YtbkhnilbgocpnaaGreatDoorProg.lean LOADS. Nothing in Lean hashes anything: it is a label: what it is worth is what the hold of that sum in a sandbox is worth. -/
noncomputable def Tryz.pinned : Pinned := { name := "ytbkhnilbgocpnaagreatdoor", sum := "2c3fce9a69243957836aea6fda3edebe78db14eb40f19d7268fb0b74d3ef1c57", checked := Tryz.checked }
namespace Rows
def none {H : Type} : Left H := { results := [], args := [] }

/- WHAT THE LISTED PACKAGE-LEVEL VARIABLES READ AS WHEN THE CALL BEGINS. Each datum BY PROGRAM (the guide's laid-datum.mjs) off the statement by which the dump's own 'gosem.cut.vars' lays the variable. In a bare row this is a premise. The card (YtbkhnilbgocpnaaGreatDoorCards.lean) ties it to the program's text. -/
def laid_drawloom_lex_signs {H : Type} : DataW H := .agg [.lit (.string [62, 62, 62]), .lit (.string [60, 60]), .lit (.string [62, 62]), .lit (.string [60, 61]), .lit (.string [62, 61]), .lit (.string [61, 61]), .lit (.string [33, 61]), .lit (.string [60, 58]), .lit (.string [38, 38]), .lit (.string [124, 124]), .lit (.string [40]), .lit (.string [41]), .lit (.string [123]), .lit (.string [125]), .lit (.string [91]), .lit (.string [93]), .lit (.string [44]), .lit (.string [59]), .lit (.string [61]), .lit (.string [43]), .lit (.string [45]), .lit (.string [42]), .lit (.string [47]), .lit (.string [37]), .lit (.string [38]), .lit (.string [124]), .lit (.string [94]), .lit (.string [126]), .lit (.string [33]), .lit (.string [60]), .lit (.string [62])]
def laid_math_bits_deBruijn32tab {H : Type} : DataW H := .agg [.lit (.int .u8 0), .lit (.int .u8 1), .lit (.int .u8 28), .lit (.int .u8 2), .lit (.int .u8 29), .lit (.int .u8 14), .lit (.int .u8 24), .lit (.int .u8 3), .lit (.int .u8 30), .lit (.int .u8 22), .lit (.int .u8 20), .lit (.int .u8 15), .lit (.int .u8 25), .lit (.int .u8 17), .lit (.int .u8 4), .lit (.int .u8 8), .lit (.int .u8 31), .lit (.int .u8 27), .lit (.int .u8 13), .lit (.int .u8 23), .lit (.int .u8 21), .lit (.int .u8 19), .lit (.int .u8 16), .lit (.int .u8 7), .lit (.int .u8 26), .lit (.int .u8 12), .lit (.int .u8 18), .lit (.int .u8 6), .lit (.int .u8 11), .lit (.int .u8 5), .lit (.int .u8 10), .lit (.int .u8 9)]
def laid_math_bits_deBruijn64tab {H : Type} : DataW H := .agg [.lit (.int .u8 0), .lit (.int .u8 1), .lit (.int .u8 56), .lit (.int .u8 2), .lit (.int .u8 57), .lit (.int .u8 49), .lit (.int .u8 28), .lit (.int .u8 3), .lit (.int .u8 61), .lit (.int .u8 58), .lit (.int .u8 42), .lit (.int .u8 50), .lit (.int .u8 38), .lit (.int .u8 29), .lit (.int .u8 17), .lit (.int .u8 4), .lit (.int .u8 62), .lit (.int .u8 47), .lit (.int .u8 59), .lit (.int .u8 36), .lit (.int .u8 45), .lit (.int .u8 43), .lit (.int .u8 51), .lit (.int .u8 22), .lit (.int .u8 53), .lit (.int .u8 39), .lit (.int .u8 33), .lit (.int .u8 30), .lit (.int .u8 24), .lit (.int .u8 18), .lit (.int .u8 12), .lit (.int .u8 5), .lit (.int .u8 63), .lit (.int .u8 55), .lit (.int .u8 48), .lit (.int .u8 27), .lit (.int .u8 60), .lit (.int .u8 41), .lit (.int .u8 37), .lit (.int .u8 16), .lit (.int .u8 46), .lit (.int .u8 35), .lit (.int .u8 44), .lit (.int .u8 21), .lit (.int .u8 52), .lit (.int .u8 32), .lit (.int .u8 23), .lit (.int .u8 11), .lit (.int .u8 54), .lit (.int .u8 26), .lit (.int .u8 40), .lit (.int .u8 15), .lit (.int .u8 34), .lit (.int .u8 20), .lit (.int .u8 31), .lit (.int .u8 10), .lit (.int .u8 25), .lit (.int .u8 14), .lit (.int .u8 19), .lit (.int .u8 9), .lit (.int .u8 13), .lit (.int .u8 8), .lit (.int .u8 7), .lit (.int .u8 6)]
def laid_internal_strconv_uint64pow10 {H : Type} : DataW H := .agg [.lit (.int .u64 1), .lit (.int .u64 10), .lit (.int .u64 100), .lit (.int .u64 1000), .lit (.int .u64 10000), .lit (.int .u64 100000), .lit (.int .u64 1000000), .lit (.int .u64 10000000), .lit (.int .u64 100000000), .lit (.int .u64 1000000000), .lit (.int .u64 10000000000), .lit (.int .u64 100000000000), .lit (.int .u64 1000000000000), .lit (.int .u64 10000000000000), .lit (.int .u64 100000000000000), .lit (.int .u64 1000000000000000), .lit (.int .u64 10000000000000000), .lit (.int .u64 100000000000000000), .lit (.int .u64 1000000000000000000), .lit (.int .u64 10000000000000000000)]
def laid_drawloom_syntax_infixes {H : Type} : DataW H := .agg [.agg [.lit (.string [124, 124]), .lit (.int .i64 1), .lit (.int .i64 17), .lit (.bool false)], .agg [.lit (.string [38, 38]), .lit (.int .i64 2), .lit (.int .i64 16), .lit (.bool false)], .agg [.lit (.string [124]), .lit (.int .i64 3), .lit (.int .i64 6), .lit (.bool false)], .agg [.lit (.string [94]), .lit (.int .i64 4), .lit (.int .i64 7), .lit (.bool false)], .agg [.lit (.string [38]), .lit (.int .i64 5), .lit (.int .i64 5), .lit (.bool false)], .agg [.lit (.string [61, 61]), .lit (.int .i64 6), .lit (.int .i64 13), .lit (.bool false)], .agg [.lit (.string [33, 61]), .lit (.int .i64 6), .lit (.int .i64 14), .lit (.bool false)], .agg [.lit (.string [60]), .lit (.int .i64 7), .lit (.int .i64 11), .lit (.bool false)], .agg [.lit (.string [60, 61]), .lit (.int .i64 7), .lit (.int .i64 12), .lit (.bool false)], .agg [.lit (.string [62]), .lit (.int .i64 7), .lit (.int .i64 11), .lit (.bool true)], .agg [.lit (.string [62, 61]), .lit (.int .i64 7), .lit (.int .i64 12), .lit (.bool true)], .agg [.lit (.string [60, 58]), .lit (.int .i64 7), .lit (.int .i64 15), .lit (.bool false)], .agg [.lit (.string [60, 60]), .lit (.int .i64 8), .lit (.int .i64 8), .lit (.bool false)], .agg [.lit (.string [62, 62]), .lit (.int .i64 8), .lit (.int .i64 9), .lit (.bool false)], .agg [.lit (.string [62, 62, 62]), .lit (.int .i64 8), .lit (.int .i64 10), .lit (.bool false)], .agg [.lit (.string [43]), .lit (.int .i64 9), .lit (.int .i64 0), .lit (.bool false)], .agg [.lit (.string [45]), .lit (.int .i64 9), .lit (.int .i64 1), .lit (.bool false)], .agg [.lit (.string [42]), .lit (.int .i64 10), .lit (.int .i64 2), .lit (.bool false)], .agg [.lit (.string [47]), .lit (.int .i64 10), .lit (.int .i64 3), .lit (.bool false)], .agg [.lit (.string [37]), .lit (.int .i64 10), .lit (.int .i64 4), .lit (.bool false)]]
def laid_drawloom_syntax_prefixes {H : Type} : DataW H := .agg [.lit (.string [45]), .lit (.string [126]), .lit (.string [33])]
def laid_drawloom_syntax_specials {H : Type} : DataW H := .agg [.lit (.string [116, 105, 100]), .lit (.string [98, 105, 100]), .lit (.string [100, 105, 109]), .lit (.string [103, 114, 105, 100])]
def laid_drawloom_syntax_folds {H : Type} : DataW H := .agg [.agg [.lit (.string [97, 100, 100]), .lit (.int .i64 0)], .agg [.lit (.string [109, 105, 110]), .lit (.int .i64 18)], .agg [.lit (.string [109, 97, 120]), .lit (.int .i64 19)], .agg [.lit (.string [97, 110, 100]), .lit (.int .i64 5)], .agg [.lit (.string [111, 114]), .lit (.int .i64 6)], .agg [.lit (.string [120, 111, 114]), .lit (.int .i64 7)]]
def laid_drawloom_syntax_exprShapes {H : Type} : DataW H := .agg [.agg [.lit (.int .i64 1), .lit (.bool false), .lit (.int .i64 0), .lit (.int .i64 0)], .agg [.lit (.int .i64 1), .lit (.bool true), .lit (.int .i64 0), .lit (.int .i64 0)], .agg [.lit (.int .i64 4), .lit (.bool false), .lit (.int .i64 0), .lit (.int .i64 0)], .agg [.lit (.int .i64 3), .lit (.bool false), .lit (.int .i64 1), .lit (.int .i64 1)], .agg [.lit (.int .i64 20), .lit (.bool false), .lit (.int .i64 2), .lit (.int .i64 2)], .agg [.lit (.int .i64 1), .lit (.bool true), .lit (.int .i64 1), .lit (.int .i64 1)], .agg [.lit (.int .i64 1), .lit (.bool true), .lit (.int .i64 0), .lit (.int .i64 6)]]
def laid_drawloom_syntax_stmtShapes {H : Type} : DataW H := .agg [.agg [.lit (.bool false), .lit (.bool true), .lit (.int .i64 1), .lit (.int .i64 1), .lit (.bool false), .lit (.bool false)], .agg [.lit (.bool false), .lit (.bool true), .lit (.int .i64 1), .lit (.int .i64 1), .lit (.bool false), .lit (.bool false)], .agg [.lit (.bool false), .lit (.bool true), .lit (.int .i64 2), .lit (.int .i64 2), .lit (.bool false), .lit (.bool false)], .agg [.lit (.bool false), .lit (.bool false), .lit (.int .i64 1), .lit (.int .i64 1), .lit (.bool true), .lit (.bool true)], .agg [.lit (.bool false), .lit (.bool false), .lit (.int .i64 1), .lit (.int .i64 1), .lit (.bool true), .lit (.bool false)], .agg [.lit (.bool false), .lit (.bool false), .lit (.int .i64 0), .lit (.int .i64 0), .lit (.bool false), .lit (.bool false)], .agg [.lit (.bool false), .lit (.bool false), .lit (.int .i64 0), .lit (.int .i64 0), .lit (.bool false), .lit (.bool false)], .agg [.lit (.bool false), .lit (.bool false), .lit (.int .i64 0), .lit (.int .i64 1), .lit (.bool false), .lit (.bool false)], .agg [.lit (.bool false), .lit (.bool false), .lit (.int .i64 0), .lit (.int .i64 0), .lit (.bool false), .lit (.bool false)], .agg [.lit (.bool true), .lit (.bool true), .lit (.int .i64 2), .lit (.int .i64 2), .lit (.bool false), .lit (.bool false)], .agg [.lit (.bool true), .lit (.bool true), .lit (.int .i64 1), .lit (.int .i64 1), .lit (.bool false), .lit (.bool false)]]

/-- 'drawloomlaw03.SyntaxParses': WHATEVER THE INPUT: true; the input reads as it did. -/
def syntaxParsesSpec : ChangeSpec := { name := "syntaxParses", fn := fun _ => fun
  | [d] => { results := [.lit (.bool true)], args := [d] }
  | _ => none }
def syntaxParsesRow : OpenClaim := { program := "ytbkhnilbgocpnaagreatdoor", sum := "2c3fce9a69243957836aea6fda3edebe78db14eb40f19d7268fb0b74d3ef1c57", func := "drawloom/drawloomlaw03.SyntaxParses", spec := "syntaxParses", unfollowed := true, recurses := true, named := ["drawloom/lex.signs", "drawloom/syntax.prefixes", "drawloom/syntax.specials", "drawloom/syntax.infixes", "drawloom/syntax.exprShapes", "internal/strconv.uint64pow10", "math/bits.deBruijn32tab", "math/bits.deBruijn64tab", "drawloom/syntax.folds", "drawloom/syntax.stmtShapes"], apart := false, laid := [("drawloom/lex.signs", laid_drawloom_lex_signs), ("math/bits.deBruijn32tab", laid_math_bits_deBruijn32tab), ("math/bits.deBruijn64tab", laid_math_bits_deBruijn64tab), ("internal/strconv.uint64pow10", laid_internal_strconv_uint64pow10), ("drawloom/syntax.infixes", laid_drawloom_syntax_infixes), ("drawloom/syntax.prefixes", laid_drawloom_syntax_prefixes), ("drawloom/syntax.specials", laid_drawloom_syntax_specials), ("drawloom/syntax.folds", laid_drawloom_syntax_folds), ("drawloom/syntax.exprShapes", laid_drawloom_syntax_exprShapes), ("drawloom/syntax.stmtShapes", laid_drawloom_syntax_stmtShapes)] }
def SyntaxParsesSaid : Prop := syntaxParsesRow.holds Tryz.pinned (OpenSpec.ofChange syntaxParsesSpec)

/-- ITS FALSE NEIGHBOUR: 'it returns false'. Refute it at one input. -/
def syntaxParsesWrong : ChangeSpec := { name := "syntaxParses", fn := fun _ => fun
  | [d] => { results := [.lit (.bool false)], args := [d] }
  | _ => none }
def SyntaxParsesWrongFalsely : Prop := syntaxParsesRow.holds Tryz.pinned (OpenSpec.ofChange syntaxParsesWrong)

/-- 'drawloomlaw03.SyntaxExprs': WHATEVER THE INPUT: true; the input reads as it did. -/
def syntaxExprsSpec : ChangeSpec := { name := "syntaxExprs", fn := fun _ => fun
  | [d] => { results := [.lit (.bool true)], args := [d] }
  | _ => none }
def syntaxExprsRow : OpenClaim := { program := "ytbkhnilbgocpnaagreatdoor", sum := "2c3fce9a69243957836aea6fda3edebe78db14eb40f19d7268fb0b74d3ef1c57", func := "drawloom/drawloomlaw03.SyntaxExprs", spec := "syntaxExprs", unfollowed := true, recurses := true, named := ["drawloom/lex.signs", "drawloom/syntax.prefixes", "drawloom/syntax.specials", "drawloom/syntax.infixes", "drawloom/syntax.exprShapes", "internal/strconv.uint64pow10", "math/bits.deBruijn32tab", "math/bits.deBruijn64tab", "drawloom/syntax.folds", "drawloom/syntax.stmtShapes"], apart := false, laid := [("drawloom/lex.signs", laid_drawloom_lex_signs), ("math/bits.deBruijn32tab", laid_math_bits_deBruijn32tab), ("math/bits.deBruijn64tab", laid_math_bits_deBruijn64tab), ("internal/strconv.uint64pow10", laid_internal_strconv_uint64pow10), ("drawloom/syntax.infixes", laid_drawloom_syntax_infixes), ("drawloom/syntax.prefixes", laid_drawloom_syntax_prefixes), ("drawloom/syntax.specials", laid_drawloom_syntax_specials), ("drawloom/syntax.folds", laid_drawloom_syntax_folds), ("drawloom/syntax.exprShapes", laid_drawloom_syntax_exprShapes), ("drawloom/syntax.stmtShapes", laid_drawloom_syntax_stmtShapes)] }
def SyntaxExprsSaid : Prop := syntaxExprsRow.holds Tryz.pinned (OpenSpec.ofChange syntaxExprsSpec)

/-- ITS FALSE NEIGHBOUR: 'it returns false'. Refute it at one input. -/
def syntaxExprsWrong : ChangeSpec := { name := "syntaxExprs", fn := fun _ => fun
  | [d] => { results := [.lit (.bool false)], args := [d] }
  | _ => none }
def SyntaxExprsWrongFalsely : Prop := syntaxExprsRow.holds Tryz.pinned (OpenSpec.ofChange syntaxExprsWrong)

/-- 'drawloomlaw03.SyntaxTexts': WHATEVER THE INPUT: true; the input reads as it did. -/
def syntaxTextsSpec : ChangeSpec := { name := "syntaxTexts", fn := fun _ => fun
  | [d] => { results := [.lit (.bool true)], args := [d] }
  | _ => none }
def syntaxTextsRow : OpenClaim := { program := "ytbkhnilbgocpnaagreatdoor", sum := "2c3fce9a69243957836aea6fda3edebe78db14eb40f19d7268fb0b74d3ef1c57", func := "drawloom/drawloomlaw03.SyntaxTexts", spec := "syntaxTexts", unfollowed := true, recurses := true, named := ["drawloom/lex.signs", "drawloom/syntax.prefixes", "drawloom/syntax.specials", "drawloom/syntax.infixes", "drawloom/syntax.exprShapes", "internal/strconv.uint64pow10", "math/bits.deBruijn32tab", "math/bits.deBruijn64tab", "drawloom/syntax.folds", "drawloom/syntax.stmtShapes"], loops := true, apart := false, laid := [("drawloom/lex.signs", laid_drawloom_lex_signs), ("math/bits.deBruijn32tab", laid_math_bits_deBruijn32tab), ("math/bits.deBruijn64tab", laid_math_bits_deBruijn64tab), ("internal/strconv.uint64pow10", laid_internal_strconv_uint64pow10), ("drawloom/syntax.infixes", laid_drawloom_syntax_infixes), ("drawloom/syntax.prefixes", laid_drawloom_syntax_prefixes), ("drawloom/syntax.specials", laid_drawloom_syntax_specials), ("drawloom/syntax.folds", laid_drawloom_syntax_folds), ("drawloom/syntax.exprShapes", laid_drawloom_syntax_exprShapes), ("drawloom/syntax.stmtShapes", laid_drawloom_syntax_stmtShapes)] }
def SyntaxTextsSaid : Prop := syntaxTextsRow.holds Tryz.pinned (OpenSpec.ofChange syntaxTextsSpec)

/-- ITS FALSE NEIGHBOUR: 'it returns false'. Refute it at one input. -/
def syntaxTextsWrong : ChangeSpec := { name := "syntaxTexts", fn := fun _ => fun
  | [d] => { results := [.lit (.bool false)], args := [d] }
  | _ => none }
def SyntaxTextsWrongFalsely : Prop := syntaxTextsRow.holds Tryz.pinned (OpenSpec.ofChange syntaxTextsWrong)

/-- 'drawloomlaw03.SyntaxExprTexts': WHATEVER THE INPUT: true; the input reads as it did. -/
def syntaxExprTextsSpec : ChangeSpec := { name := "syntaxExprTexts", fn := fun _ => fun
  | [d] => { results := [.lit (.bool true)], args := [d] }
  | _ => none }
def syntaxExprTextsRow : OpenClaim := { program := "ytbkhnilbgocpnaagreatdoor", sum := "2c3fce9a69243957836aea6fda3edebe78db14eb40f19d7268fb0b74d3ef1c57", func := "drawloom/drawloomlaw03.SyntaxExprTexts", spec := "syntaxExprTexts", unfollowed := true, recurses := true, named := ["drawloom/lex.signs", "drawloom/syntax.prefixes", "drawloom/syntax.specials", "drawloom/syntax.infixes", "drawloom/syntax.exprShapes", "internal/strconv.uint64pow10", "math/bits.deBruijn32tab", "math/bits.deBruijn64tab", "drawloom/syntax.folds", "drawloom/syntax.stmtShapes"], loops := true, apart := false, laid := [("drawloom/lex.signs", laid_drawloom_lex_signs), ("math/bits.deBruijn32tab", laid_math_bits_deBruijn32tab), ("math/bits.deBruijn64tab", laid_math_bits_deBruijn64tab), ("internal/strconv.uint64pow10", laid_internal_strconv_uint64pow10), ("drawloom/syntax.infixes", laid_drawloom_syntax_infixes), ("drawloom/syntax.prefixes", laid_drawloom_syntax_prefixes), ("drawloom/syntax.specials", laid_drawloom_syntax_specials), ("drawloom/syntax.folds", laid_drawloom_syntax_folds), ("drawloom/syntax.exprShapes", laid_drawloom_syntax_exprShapes), ("drawloom/syntax.stmtShapes", laid_drawloom_syntax_stmtShapes)] }
def SyntaxExprTextsSaid : Prop := syntaxExprTextsRow.holds Tryz.pinned (OpenSpec.ofChange syntaxExprTextsSpec)

/-- ITS FALSE NEIGHBOUR: 'it returns false'. Refute it at one input. -/
def syntaxExprTextsWrong : ChangeSpec := { name := "syntaxExprTexts", fn := fun _ => fun
  | [d] => { results := [.lit (.bool false)], args := [d] }
  | _ => none }
def SyntaxExprTextsWrongFalsely : Prop := syntaxExprTextsRow.holds Tryz.pinned (OpenSpec.ofChange syntaxExprTextsWrong)

/-- 'drawloomlaw03.SyntaxBack': WHATEVER THE INPUT: true; the input reads as it did. -/
def syntaxBackSpec : ChangeSpec := { name := "syntaxBack", fn := fun _ => fun
  | [d1, d2] => { results := [.lit (.bool true)], args := [d1, d2] }
  | _ => none }
def syntaxBackRow : OpenClaim := { program := "ytbkhnilbgocpnaagreatdoor", sum := "2c3fce9a69243957836aea6fda3edebe78db14eb40f19d7268fb0b74d3ef1c57", func := "drawloom/drawloomlaw03.SyntaxBack", spec := "syntaxBack", unfollowed := true, recurses := true, named := ["drawloom/lex.signs", "drawloom/syntax.prefixes", "drawloom/syntax.specials", "drawloom/syntax.infixes", "drawloom/syntax.exprShapes", "internal/strconv.uint64pow10", "math/bits.deBruijn32tab", "math/bits.deBruijn64tab", "drawloom/syntax.folds", "drawloom/syntax.stmtShapes"], loops := true, apart := false, laid := [("drawloom/lex.signs", laid_drawloom_lex_signs), ("math/bits.deBruijn32tab", laid_math_bits_deBruijn32tab), ("math/bits.deBruijn64tab", laid_math_bits_deBruijn64tab), ("internal/strconv.uint64pow10", laid_internal_strconv_uint64pow10), ("drawloom/syntax.infixes", laid_drawloom_syntax_infixes), ("drawloom/syntax.prefixes", laid_drawloom_syntax_prefixes), ("drawloom/syntax.specials", laid_drawloom_syntax_specials), ("drawloom/syntax.folds", laid_drawloom_syntax_folds), ("drawloom/syntax.exprShapes", laid_drawloom_syntax_exprShapes), ("drawloom/syntax.stmtShapes", laid_drawloom_syntax_stmtShapes)] }
def SyntaxBackSaid : Prop := syntaxBackRow.holds Tryz.pinned (OpenSpec.ofChange syntaxBackSpec)

/-- ITS FALSE NEIGHBOUR: 'it returns false'. Refute it at one input. -/
def syntaxBackWrong : ChangeSpec := { name := "syntaxBack", fn := fun _ => fun
  | [d1, d2] => { results := [.lit (.bool false)], args := [d1, d2] }
  | _ => none }
def SyntaxBackWrongFalsely : Prop := syntaxBackRow.holds Tryz.pinned (OpenSpec.ofChange syntaxBackWrong)

/-- 'drawloomlaw03.SyntaxAgain': WHATEVER THE INPUT: true; the input reads as it did. -/
def syntaxAgainSpec : ChangeSpec := { name := "syntaxAgain", fn := fun _ => fun
  | [d] => { results := [.lit (.bool true)], args := [d] }
  | _ => none }
def syntaxAgainRow : OpenClaim := { program := "ytbkhnilbgocpnaagreatdoor", sum := "2c3fce9a69243957836aea6fda3edebe78db14eb40f19d7268fb0b74d3ef1c57", func := "drawloom/drawloomlaw03.SyntaxAgain", spec := "syntaxAgain", unfollowed := true, recurses := true, named := ["drawloom/lex.signs", "drawloom/syntax.prefixes", "drawloom/syntax.specials", "drawloom/syntax.infixes", "drawloom/syntax.exprShapes", "internal/strconv.uint64pow10", "math/bits.deBruijn32tab", "math/bits.deBruijn64tab", "drawloom/syntax.folds", "drawloom/syntax.stmtShapes"], apart := false, laid := [("drawloom/lex.signs", laid_drawloom_lex_signs), ("math/bits.deBruijn32tab", laid_math_bits_deBruijn32tab), ("math/bits.deBruijn64tab", laid_math_bits_deBruijn64tab), ("internal/strconv.uint64pow10", laid_internal_strconv_uint64pow10), ("drawloom/syntax.infixes", laid_drawloom_syntax_infixes), ("drawloom/syntax.prefixes", laid_drawloom_syntax_prefixes), ("drawloom/syntax.specials", laid_drawloom_syntax_specials), ("drawloom/syntax.folds", laid_drawloom_syntax_folds), ("drawloom/syntax.exprShapes", laid_drawloom_syntax_exprShapes), ("drawloom/syntax.stmtShapes", laid_drawloom_syntax_stmtShapes)] }
def SyntaxAgainSaid : Prop := syntaxAgainRow.holds Tryz.pinned (OpenSpec.ofChange syntaxAgainSpec)

/-- ITS FALSE NEIGHBOUR: 'it returns false'. Refute it at one input. -/
def syntaxAgainWrong : ChangeSpec := { name := "syntaxAgain", fn := fun _ => fun
  | [d] => { results := [.lit (.bool false)], args := [d] }
  | _ => none }
def SyntaxAgainWrongFalsely : Prop := syntaxAgainRow.holds Tryz.pinned (OpenSpec.ofChange syntaxAgainWrong)

/-- 'drawloomlaw03.SyntaxBlanks': WHATEVER THE INPUT: true; the input reads as it did. -/
def syntaxBlanksSpec : ChangeSpec := { name := "syntaxBlanks", fn := fun _ => fun
  | [d1, d2] => { results := [.lit (.bool true)], args := [d1, d2] }
  | _ => none }
def syntaxBlanksRow : OpenClaim := { program := "ytbkhnilbgocpnaagreatdoor", sum := "2c3fce9a69243957836aea6fda3edebe78db14eb40f19d7268fb0b74d3ef1c57", func := "drawloom/drawloomlaw03.SyntaxBlanks", spec := "syntaxBlanks", unfollowed := true, recurses := true, named := ["drawloom/lex.signs", "drawloom/syntax.prefixes", "drawloom/syntax.specials", "drawloom/syntax.infixes", "drawloom/syntax.exprShapes", "internal/strconv.uint64pow10", "math/bits.deBruijn32tab", "math/bits.deBruijn64tab", "drawloom/syntax.folds", "drawloom/syntax.stmtShapes"], apart := false, laid := [("drawloom/lex.signs", laid_drawloom_lex_signs), ("math/bits.deBruijn32tab", laid_math_bits_deBruijn32tab), ("math/bits.deBruijn64tab", laid_math_bits_deBruijn64tab), ("internal/strconv.uint64pow10", laid_internal_strconv_uint64pow10), ("drawloom/syntax.infixes", laid_drawloom_syntax_infixes), ("drawloom/syntax.prefixes", laid_drawloom_syntax_prefixes), ("drawloom/syntax.specials", laid_drawloom_syntax_specials), ("drawloom/syntax.folds", laid_drawloom_syntax_folds), ("drawloom/syntax.exprShapes", laid_drawloom_syntax_exprShapes), ("drawloom/syntax.stmtShapes", laid_drawloom_syntax_stmtShapes)] }
def SyntaxBlanksSaid : Prop := syntaxBlanksRow.holds Tryz.pinned (OpenSpec.ofChange syntaxBlanksSpec)

/-- ITS FALSE NEIGHBOUR: 'it returns false'. Refute it at one input. -/
def syntaxBlanksWrong : ChangeSpec := { name := "syntaxBlanks", fn := fun _ => fun
  | [d1, d2] => { results := [.lit (.bool false)], args := [d1, d2] }
  | _ => none }
def SyntaxBlanksWrongFalsely : Prop := syntaxBlanksRow.holds Tryz.pinned (OpenSpec.ofChange syntaxBlanksWrong)

/-- 'drawloomlaw03.SyntaxLevels': WHATEVER THE INPUT: true; the input reads as it did. -/
def syntaxLevelsSpec : ChangeSpec := { name := "syntaxLevels", fn := fun _ => fun
  | [d1, d2, d3] => { results := [.lit (.bool true)], args := [d1, d2, d3] }
  | _ => none }
def syntaxLevelsRow : OpenClaim := { program := "ytbkhnilbgocpnaagreatdoor", sum := "2c3fce9a69243957836aea6fda3edebe78db14eb40f19d7268fb0b74d3ef1c57", func := "drawloom/drawloomlaw03.SyntaxLevels", spec := "syntaxLevels", unfollowed := true, recurses := true, named := ["drawloom/lex.signs", "drawloom/syntax.prefixes", "drawloom/syntax.specials", "drawloom/syntax.infixes", "drawloom/syntax.exprShapes", "internal/strconv.uint64pow10", "math/bits.deBruijn32tab", "math/bits.deBruijn64tab", "drawloom/syntax.folds", "drawloom/syntax.stmtShapes"], apart := false, laid := [("drawloom/lex.signs", laid_drawloom_lex_signs), ("math/bits.deBruijn32tab", laid_math_bits_deBruijn32tab), ("math/bits.deBruijn64tab", laid_math_bits_deBruijn64tab), ("internal/strconv.uint64pow10", laid_internal_strconv_uint64pow10), ("drawloom/syntax.infixes", laid_drawloom_syntax_infixes), ("drawloom/syntax.prefixes", laid_drawloom_syntax_prefixes), ("drawloom/syntax.specials", laid_drawloom_syntax_specials), ("drawloom/syntax.folds", laid_drawloom_syntax_folds), ("drawloom/syntax.exprShapes", laid_drawloom_syntax_exprShapes), ("drawloom/syntax.stmtShapes", laid_drawloom_syntax_stmtShapes)] }
def SyntaxLevelsSaid : Prop := syntaxLevelsRow.holds Tryz.pinned (OpenSpec.ofChange syntaxLevelsSpec)

/-- ITS FALSE NEIGHBOUR: 'it returns false'. Refute it at one input. -/
def syntaxLevelsWrong : ChangeSpec := { name := "syntaxLevels", fn := fun _ => fun
  | [d1, d2, d3] => { results := [.lit (.bool false)], args := [d1, d2, d3] }
  | _ => none }
def SyntaxLevelsWrongFalsely : Prop := syntaxLevelsRow.holds Tryz.pinned (OpenSpec.ofChange syntaxLevelsWrong)

/-- 'drawloomlaw03.SyntaxWhere': WHATEVER THE INPUT: true; the input reads as it did. -/
def syntaxWhereSpec : ChangeSpec := { name := "syntaxWhere", fn := fun _ => fun
  | [d] => { results := [.lit (.bool true)], args := [d] }
  | _ => none }
def syntaxWhereRow : OpenClaim := { program := "ytbkhnilbgocpnaagreatdoor", sum := "2c3fce9a69243957836aea6fda3edebe78db14eb40f19d7268fb0b74d3ef1c57", func := "drawloom/drawloomlaw03.SyntaxWhere", spec := "syntaxWhere", unfollowed := true, recurses := true, named := ["drawloom/lex.signs", "drawloom/syntax.prefixes", "drawloom/syntax.specials", "drawloom/syntax.infixes", "drawloom/syntax.exprShapes", "internal/strconv.uint64pow10", "math/bits.deBruijn32tab", "math/bits.deBruijn64tab", "drawloom/syntax.folds", "drawloom/syntax.stmtShapes"], apart := false, laid := [("drawloom/lex.signs", laid_drawloom_lex_signs), ("math/bits.deBruijn32tab", laid_math_bits_deBruijn32tab), ("math/bits.deBruijn64tab", laid_math_bits_deBruijn64tab), ("internal/strconv.uint64pow10", laid_internal_strconv_uint64pow10), ("drawloom/syntax.infixes", laid_drawloom_syntax_infixes), ("drawloom/syntax.prefixes", laid_drawloom_syntax_prefixes), ("drawloom/syntax.specials", laid_drawloom_syntax_specials), ("drawloom/syntax.folds", laid_drawloom_syntax_folds), ("drawloom/syntax.exprShapes", laid_drawloom_syntax_exprShapes), ("drawloom/syntax.stmtShapes", laid_drawloom_syntax_stmtShapes)] }
def SyntaxWhereSaid : Prop := syntaxWhereRow.holds Tryz.pinned (OpenSpec.ofChange syntaxWhereSpec)

/-- ITS FALSE NEIGHBOUR: 'it returns false'. Refute it at one input. -/
def syntaxWhereWrong : ChangeSpec := { name := "syntaxWhere", fn := fun _ => fun
  | [d] => { results := [.lit (.bool false)], args := [d] }
  | _ => none }
def SyntaxWhereWrongFalsely : Prop := syntaxWhereRow.holds Tryz.pinned (OpenSpec.ofChange syntaxWhereWrong)

/-- 'drawloomlaw03.SyntaxMixed': WHATEVER THE INPUT: true; the input reads as it did. -/
def syntaxMixedSpec : ChangeSpec := { name := "syntaxMixed", fn := fun _ => fun
  | [d1, d2] => { results := [.lit (.bool true)], args := [d1, d2] }
  | _ => none }
def syntaxMixedRow : OpenClaim := { program := "ytbkhnilbgocpnaagreatdoor", sum := "2c3fce9a69243957836aea6fda3edebe78db14eb40f19d7268fb0b74d3ef1c57", func := "drawloom/drawloomlaw03.SyntaxMixed", spec := "syntaxMixed", unfollowed := true, recurses := true, named := ["drawloom/lex.signs", "drawloom/syntax.prefixes", "drawloom/syntax.specials", "drawloom/syntax.infixes", "drawloom/syntax.exprShapes", "internal/strconv.uint64pow10", "math/bits.deBruijn32tab", "math/bits.deBruijn64tab", "drawloom/syntax.folds", "drawloom/syntax.stmtShapes"], loops := true, apart := false, laid := [("drawloom/lex.signs", laid_drawloom_lex_signs), ("math/bits.deBruijn32tab", laid_math_bits_deBruijn32tab), ("math/bits.deBruijn64tab", laid_math_bits_deBruijn64tab), ("internal/strconv.uint64pow10", laid_internal_strconv_uint64pow10), ("drawloom/syntax.infixes", laid_drawloom_syntax_infixes), ("drawloom/syntax.prefixes", laid_drawloom_syntax_prefixes), ("drawloom/syntax.specials", laid_drawloom_syntax_specials), ("drawloom/syntax.folds", laid_drawloom_syntax_folds), ("drawloom/syntax.exprShapes", laid_drawloom_syntax_exprShapes), ("drawloom/syntax.stmtShapes", laid_drawloom_syntax_stmtShapes)] }
def SyntaxMixedSaid : Prop := syntaxMixedRow.holds Tryz.pinned (OpenSpec.ofChange syntaxMixedSpec)

/-- ITS FALSE NEIGHBOUR: 'it returns false'. Refute it at one input. -/
def syntaxMixedWrong : ChangeSpec := { name := "syntaxMixed", fn := fun _ => fun
  | [d1, d2] => { results := [.lit (.bool false)], args := [d1, d2] }
  | _ => none }
def SyntaxMixedWrongFalsely : Prop := syntaxMixedRow.holds Tryz.pinned (OpenSpec.ofChange syntaxMixedWrong)

/-- 'drawloomlaw03.SyntaxNames': WHATEVER THE INPUT: true; the input reads as it did. -/
def syntaxNamesSpec : ChangeSpec := { name := "syntaxNames", fn := fun _ => fun
  | [d] => { results := [.lit (.bool true)], args := [d] }
  | _ => none }
def syntaxNamesRow : OpenClaim := { program := "ytbkhnilbgocpnaagreatdoor", sum := "2c3fce9a69243957836aea6fda3edebe78db14eb40f19d7268fb0b74d3ef1c57", func := "drawloom/drawloomlaw03.SyntaxNames", spec := "syntaxNames", unfollowed := true, recurses := true, named := ["drawloom/lex.signs", "drawloom/syntax.prefixes", "drawloom/syntax.specials", "drawloom/syntax.infixes", "drawloom/syntax.exprShapes", "internal/strconv.uint64pow10", "math/bits.deBruijn32tab", "math/bits.deBruijn64tab", "drawloom/syntax.folds", "drawloom/syntax.stmtShapes"], apart := false, laid := [("drawloom/lex.signs", laid_drawloom_lex_signs), ("math/bits.deBruijn32tab", laid_math_bits_deBruijn32tab), ("math/bits.deBruijn64tab", laid_math_bits_deBruijn64tab), ("internal/strconv.uint64pow10", laid_internal_strconv_uint64pow10), ("drawloom/syntax.infixes", laid_drawloom_syntax_infixes), ("drawloom/syntax.prefixes", laid_drawloom_syntax_prefixes), ("drawloom/syntax.specials", laid_drawloom_syntax_specials), ("drawloom/syntax.folds", laid_drawloom_syntax_folds), ("drawloom/syntax.exprShapes", laid_drawloom_syntax_exprShapes), ("drawloom/syntax.stmtShapes", laid_drawloom_syntax_stmtShapes)] }
def SyntaxNamesSaid : Prop := syntaxNamesRow.holds Tryz.pinned (OpenSpec.ofChange syntaxNamesSpec)

/-- ITS FALSE NEIGHBOUR: 'it returns false'. Refute it at one input. -/
def syntaxNamesWrong : ChangeSpec := { name := "syntaxNames", fn := fun _ => fun
  | [d] => { results := [.lit (.bool false)], args := [d] }
  | _ => none }
def SyntaxNamesWrongFalsely : Prop := syntaxNamesRow.holds Tryz.pinned (OpenSpec.ofChange syntaxNamesWrong)

/- THE SECOND FORM. 'bulk': how many values and letters a reading holds, each counted each time it is reached (what is shared counts as often as it is met; a slice's spare places count too). A statement '..UptoSaid' is the law's where the arguments, and the package variables that the reading takes, are together of bulk at most 1048576: NARROWER than '..Said'. Prove '..Said' where nothing that the law and all that it calls make is longer than what came in: it says more and counts as full. Else prove '..UptoSaid'. A law counts once. -/
mutual
def uptoBulk {H : Type} : DataW H → Nat
  | .lit (.string bytes) => bytes.length + 1
  | .lit _ => 1
  | .nil => 1
  | .ptr d => uptoBulk d + 1
  | .slice elems spare => uptoBulkAll elems + uptoBulkAll spare + 1
  | .agg parts => uptoBulkAll parts + 1
  | .iface _ d => uptoBulk d + 1
  | .map entries => uptoBulkEntries entries + 1
  | .held _ => 1
def uptoBulkAll {H : Type} : List (DataW H) → Nat
  | [] => 0
  | d :: r => uptoBulk d + uptoBulkAll r
def uptoBulkEntries {H : Type} : List (Lit × DataW H) → Nat
  | [] => 0
  | x :: r => uptoBulkEntry x + uptoBulkEntries r
def uptoBulkEntry {H : Type} : Lit × DataW H → Nat
  | (.string bytes, d) => bytes.length + uptoBulk d + 1
  | (_, d) => uptoBulk d + 1
 end
def uptoSmall : (H : Type) → List (DataW H) → Bool := fun _ ds => decide (uptoBulkAll ds ≤ 1048576)
def OpenSpec.upto (s : _root_.Go.ChangeSpec) : _root_.Go.OpenSpec := { _root_.Go.OpenSpec.ofChange s with cond := some uptoSmall }

/-- 'drawloomlaw03.SyntaxParses', WHERE WHAT IT READS IS OF BULK AT MOST 1048576: true; the input reads as it did. -/
def syntaxParsesUptoRow : OpenClaim := { program := "ytbkhnilbgocpnaagreatdoor", sum := "2c3fce9a69243957836aea6fda3edebe78db14eb40f19d7268fb0b74d3ef1c57", func := "drawloom/drawloomlaw03.SyntaxParses", spec := "syntaxParses", unfollowed := true, recurses := true, named := ["drawloom/lex.signs", "drawloom/syntax.prefixes", "drawloom/syntax.specials", "drawloom/syntax.infixes", "drawloom/syntax.exprShapes", "internal/strconv.uint64pow10", "math/bits.deBruijn32tab", "math/bits.deBruijn64tab", "drawloom/syntax.folds", "drawloom/syntax.stmtShapes"], apart := false, laid := [("drawloom/lex.signs", laid_drawloom_lex_signs), ("math/bits.deBruijn32tab", laid_math_bits_deBruijn32tab), ("math/bits.deBruijn64tab", laid_math_bits_deBruijn64tab), ("internal/strconv.uint64pow10", laid_internal_strconv_uint64pow10), ("drawloom/syntax.infixes", laid_drawloom_syntax_infixes), ("drawloom/syntax.prefixes", laid_drawloom_syntax_prefixes), ("drawloom/syntax.specials", laid_drawloom_syntax_specials), ("drawloom/syntax.folds", laid_drawloom_syntax_folds), ("drawloom/syntax.exprShapes", laid_drawloom_syntax_exprShapes), ("drawloom/syntax.stmtShapes", laid_drawloom_syntax_stmtShapes)], narrowed := true }
def SyntaxParsesUptoSaid : Prop := syntaxParsesUptoRow.holds Tryz.pinned (OpenSpec.upto syntaxParsesSpec)

/-- 'drawloomlaw03.SyntaxExprs', WHERE WHAT IT READS IS OF BULK AT MOST 1048576: true; the input reads as it did. -/
def syntaxExprsUptoRow : OpenClaim := { program := "ytbkhnilbgocpnaagreatdoor", sum := "2c3fce9a69243957836aea6fda3edebe78db14eb40f19d7268fb0b74d3ef1c57", func := "drawloom/drawloomlaw03.SyntaxExprs", spec := "syntaxExprs", unfollowed := true, recurses := true, named := ["drawloom/lex.signs", "drawloom/syntax.prefixes", "drawloom/syntax.specials", "drawloom/syntax.infixes", "drawloom/syntax.exprShapes", "internal/strconv.uint64pow10", "math/bits.deBruijn32tab", "math/bits.deBruijn64tab", "drawloom/syntax.folds", "drawloom/syntax.stmtShapes"], apart := false, laid := [("drawloom/lex.signs", laid_drawloom_lex_signs), ("math/bits.deBruijn32tab", laid_math_bits_deBruijn32tab), ("math/bits.deBruijn64tab", laid_math_bits_deBruijn64tab), ("internal/strconv.uint64pow10", laid_internal_strconv_uint64pow10), ("drawloom/syntax.infixes", laid_drawloom_syntax_infixes), ("drawloom/syntax.prefixes", laid_drawloom_syntax_prefixes), ("drawloom/syntax.specials", laid_drawloom_syntax_specials), ("drawloom/syntax.folds", laid_drawloom_syntax_folds), ("drawloom/syntax.exprShapes", laid_drawloom_syntax_exprShapes), ("drawloom/syntax.stmtShapes", laid_drawloom_syntax_stmtShapes)], narrowed := true }
def SyntaxExprsUptoSaid : Prop := syntaxExprsUptoRow.holds Tryz.pinned (OpenSpec.upto syntaxExprsSpec)

/-- 'drawloomlaw03.SyntaxTexts', WHERE WHAT IT READS IS OF BULK AT MOST 1048576: true; the input reads as it did. -/
def syntaxTextsUptoRow : OpenClaim := { program := "ytbkhnilbgocpnaagreatdoor", sum := "2c3fce9a69243957836aea6fda3edebe78db14eb40f19d7268fb0b74d3ef1c57", func := "drawloom/drawloomlaw03.SyntaxTexts", spec := "syntaxTexts", unfollowed := true, recurses := true, named := ["drawloom/lex.signs", "drawloom/syntax.prefixes", "drawloom/syntax.specials", "drawloom/syntax.infixes", "drawloom/syntax.exprShapes", "internal/strconv.uint64pow10", "math/bits.deBruijn32tab", "math/bits.deBruijn64tab", "drawloom/syntax.folds", "drawloom/syntax.stmtShapes"], loops := true, apart := false, laid := [("drawloom/lex.signs", laid_drawloom_lex_signs), ("math/bits.deBruijn32tab", laid_math_bits_deBruijn32tab), ("math/bits.deBruijn64tab", laid_math_bits_deBruijn64tab), ("internal/strconv.uint64pow10", laid_internal_strconv_uint64pow10), ("drawloom/syntax.infixes", laid_drawloom_syntax_infixes), ("drawloom/syntax.prefixes", laid_drawloom_syntax_prefixes), ("drawloom/syntax.specials", laid_drawloom_syntax_specials), ("drawloom/syntax.folds", laid_drawloom_syntax_folds), ("drawloom/syntax.exprShapes", laid_drawloom_syntax_exprShapes), ("drawloom/syntax.stmtShapes", laid_drawloom_syntax_stmtShapes)], narrowed := true }
def SyntaxTextsUptoSaid : Prop := syntaxTextsUptoRow.holds Tryz.pinned (OpenSpec.upto syntaxTextsSpec)

/-- 'drawloomlaw03.SyntaxExprTexts', WHERE WHAT IT READS IS OF BULK AT MOST 1048576: true; the input reads as it did. -/
def syntaxExprTextsUptoRow : OpenClaim := { program := "ytbkhnilbgocpnaagreatdoor", sum := "2c3fce9a69243957836aea6fda3edebe78db14eb40f19d7268fb0b74d3ef1c57", func := "drawloom/drawloomlaw03.SyntaxExprTexts", spec := "syntaxExprTexts", unfollowed := true, recurses := true, named := ["drawloom/lex.signs", "drawloom/syntax.prefixes", "drawloom/syntax.specials", "drawloom/syntax.infixes", "drawloom/syntax.exprShapes", "internal/strconv.uint64pow10", "math/bits.deBruijn32tab", "math/bits.deBruijn64tab", "drawloom/syntax.folds", "drawloom/syntax.stmtShapes"], loops := true, apart := false, laid := [("drawloom/lex.signs", laid_drawloom_lex_signs), ("math/bits.deBruijn32tab", laid_math_bits_deBruijn32tab), ("math/bits.deBruijn64tab", laid_math_bits_deBruijn64tab), ("internal/strconv.uint64pow10", laid_internal_strconv_uint64pow10), ("drawloom/syntax.infixes", laid_drawloom_syntax_infixes), ("drawloom/syntax.prefixes", laid_drawloom_syntax_prefixes), ("drawloom/syntax.specials", laid_drawloom_syntax_specials), ("drawloom/syntax.folds", laid_drawloom_syntax_folds), ("drawloom/syntax.exprShapes", laid_drawloom_syntax_exprShapes), ("drawloom/syntax.stmtShapes", laid_drawloom_syntax_stmtShapes)], narrowed := true }
def SyntaxExprTextsUptoSaid : Prop := syntaxExprTextsUptoRow.holds Tryz.pinned (OpenSpec.upto syntaxExprTextsSpec)

/-- 'drawloomlaw03.SyntaxBack', WHERE WHAT IT READS IS OF BULK AT MOST 1048576: true; the input reads as it did. -/
def syntaxBackUptoRow : OpenClaim := { program := "ytbkhnilbgocpnaagreatdoor", sum := "2c3fce9a69243957836aea6fda3edebe78db14eb40f19d7268fb0b74d3ef1c57", func := "drawloom/drawloomlaw03.SyntaxBack", spec := "syntaxBack", unfollowed := true, recurses := true, named := ["drawloom/lex.signs", "drawloom/syntax.prefixes", "drawloom/syntax.specials", "drawloom/syntax.infixes", "drawloom/syntax.exprShapes", "internal/strconv.uint64pow10", "math/bits.deBruijn32tab", "math/bits.deBruijn64tab", "drawloom/syntax.folds", "drawloom/syntax.stmtShapes"], loops := true, apart := false, laid := [("drawloom/lex.signs", laid_drawloom_lex_signs), ("math/bits.deBruijn32tab", laid_math_bits_deBruijn32tab), ("math/bits.deBruijn64tab", laid_math_bits_deBruijn64tab), ("internal/strconv.uint64pow10", laid_internal_strconv_uint64pow10), ("drawloom/syntax.infixes", laid_drawloom_syntax_infixes), ("drawloom/syntax.prefixes", laid_drawloom_syntax_prefixes), ("drawloom/syntax.specials", laid_drawloom_syntax_specials), ("drawloom/syntax.folds", laid_drawloom_syntax_folds), ("drawloom/syntax.exprShapes", laid_drawloom_syntax_exprShapes), ("drawloom/syntax.stmtShapes", laid_drawloom_syntax_stmtShapes)], narrowed := true }
def SyntaxBackUptoSaid : Prop := syntaxBackUptoRow.holds Tryz.pinned (OpenSpec.upto syntaxBackSpec)

/-- 'drawloomlaw03.SyntaxAgain', WHERE WHAT IT READS IS OF BULK AT MOST 1048576: true; the input reads as it did. -/
def syntaxAgainUptoRow : OpenClaim := { program := "ytbkhnilbgocpnaagreatdoor", sum := "2c3fce9a69243957836aea6fda3edebe78db14eb40f19d7268fb0b74d3ef1c57", func := "drawloom/drawloomlaw03.SyntaxAgain", spec := "syntaxAgain", unfollowed := true, recurses := true, named := ["drawloom/lex.signs", "drawloom/syntax.prefixes", "drawloom/syntax.specials", "drawloom/syntax.infixes", "drawloom/syntax.exprShapes", "internal/strconv.uint64pow10", "math/bits.deBruijn32tab", "math/bits.deBruijn64tab", "drawloom/syntax.folds", "drawloom/syntax.stmtShapes"], apart := false, laid := [("drawloom/lex.signs", laid_drawloom_lex_signs), ("math/bits.deBruijn32tab", laid_math_bits_deBruijn32tab), ("math/bits.deBruijn64tab", laid_math_bits_deBruijn64tab), ("internal/strconv.uint64pow10", laid_internal_strconv_uint64pow10), ("drawloom/syntax.infixes", laid_drawloom_syntax_infixes), ("drawloom/syntax.prefixes", laid_drawloom_syntax_prefixes), ("drawloom/syntax.specials", laid_drawloom_syntax_specials), ("drawloom/syntax.folds", laid_drawloom_syntax_folds), ("drawloom/syntax.exprShapes", laid_drawloom_syntax_exprShapes), ("drawloom/syntax.stmtShapes", laid_drawloom_syntax_stmtShapes)], narrowed := true }
def SyntaxAgainUptoSaid : Prop := syntaxAgainUptoRow.holds Tryz.pinned (OpenSpec.upto syntaxAgainSpec)

/-- 'drawloomlaw03.SyntaxBlanks', WHERE WHAT IT READS IS OF BULK AT MOST 1048576: true; the input reads as it did. -/
def syntaxBlanksUptoRow : OpenClaim := { program := "ytbkhnilbgocpnaagreatdoor", sum := "2c3fce9a69243957836aea6fda3edebe78db14eb40f19d7268fb0b74d3ef1c57", func := "drawloom/drawloomlaw03.SyntaxBlanks", spec := "syntaxBlanks", unfollowed := true, recurses := true, named := ["drawloom/lex.signs", "drawloom/syntax.prefixes", "drawloom/syntax.specials", "drawloom/syntax.infixes", "drawloom/syntax.exprShapes", "internal/strconv.uint64pow10", "math/bits.deBruijn32tab", "math/bits.deBruijn64tab", "drawloom/syntax.folds", "drawloom/syntax.stmtShapes"], apart := false, laid := [("drawloom/lex.signs", laid_drawloom_lex_signs), ("math/bits.deBruijn32tab", laid_math_bits_deBruijn32tab), ("math/bits.deBruijn64tab", laid_math_bits_deBruijn64tab), ("internal/strconv.uint64pow10", laid_internal_strconv_uint64pow10), ("drawloom/syntax.infixes", laid_drawloom_syntax_infixes), ("drawloom/syntax.prefixes", laid_drawloom_syntax_prefixes), ("drawloom/syntax.specials", laid_drawloom_syntax_specials), ("drawloom/syntax.folds", laid_drawloom_syntax_folds), ("drawloom/syntax.exprShapes", laid_drawloom_syntax_exprShapes), ("drawloom/syntax.stmtShapes", laid_drawloom_syntax_stmtShapes)], narrowed := true }
def SyntaxBlanksUptoSaid : Prop := syntaxBlanksUptoRow.holds Tryz.pinned (OpenSpec.upto syntaxBlanksSpec)

/-- 'drawloomlaw03.SyntaxLevels', WHERE WHAT IT READS IS OF BULK AT MOST 1048576: true; the input reads as it did. -/
def syntaxLevelsUptoRow : OpenClaim := { program := "ytbkhnilbgocpnaagreatdoor", sum := "2c3fce9a69243957836aea6fda3edebe78db14eb40f19d7268fb0b74d3ef1c57", func := "drawloom/drawloomlaw03.SyntaxLevels", spec := "syntaxLevels", unfollowed := true, recurses := true, named := ["drawloom/lex.signs", "drawloom/syntax.prefixes", "drawloom/syntax.specials", "drawloom/syntax.infixes", "drawloom/syntax.exprShapes", "internal/strconv.uint64pow10", "math/bits.deBruijn32tab", "math/bits.deBruijn64tab", "drawloom/syntax.folds", "drawloom/syntax.stmtShapes"], apart := false, laid := [("drawloom/lex.signs", laid_drawloom_lex_signs), ("math/bits.deBruijn32tab", laid_math_bits_deBruijn32tab), ("math/bits.deBruijn64tab", laid_math_bits_deBruijn64tab), ("internal/strconv.uint64pow10", laid_internal_strconv_uint64pow10), ("drawloom/syntax.infixes", laid_drawloom_syntax_infixes), ("drawloom/syntax.prefixes", laid_drawloom_syntax_prefixes), ("drawloom/syntax.specials", laid_drawloom_syntax_specials), ("drawloom/syntax.folds", laid_drawloom_syntax_folds), ("drawloom/syntax.exprShapes", laid_drawloom_syntax_exprShapes), ("drawloom/syntax.stmtShapes", laid_drawloom_syntax_stmtShapes)], narrowed := true }
def SyntaxLevelsUptoSaid : Prop := syntaxLevelsUptoRow.holds Tryz.pinned (OpenSpec.upto syntaxLevelsSpec)

/-- 'drawloomlaw03.SyntaxWhere', WHERE WHAT IT READS IS OF BULK AT MOST 1048576: true; the input reads as it did. -/
def syntaxWhereUptoRow : OpenClaim := { program := "ytbkhnilbgocpnaagreatdoor", sum := "2c3fce9a69243957836aea6fda3edebe78db14eb40f19d7268fb0b74d3ef1c57", func := "drawloom/drawloomlaw03.SyntaxWhere", spec := "syntaxWhere", unfollowed := true, recurses := true, named := ["drawloom/lex.signs", "drawloom/syntax.prefixes", "drawloom/syntax.specials", "drawloom/syntax.infixes", "drawloom/syntax.exprShapes", "internal/strconv.uint64pow10", "math/bits.deBruijn32tab", "math/bits.deBruijn64tab", "drawloom/syntax.folds", "drawloom/syntax.stmtShapes"], apart := false, laid := [("drawloom/lex.signs", laid_drawloom_lex_signs), ("math/bits.deBruijn32tab", laid_math_bits_deBruijn32tab), ("math/bits.deBruijn64tab", laid_math_bits_deBruijn64tab), ("internal/strconv.uint64pow10", laid_internal_strconv_uint64pow10), ("drawloom/syntax.infixes", laid_drawloom_syntax_infixes), ("drawloom/syntax.prefixes", laid_drawloom_syntax_prefixes), ("drawloom/syntax.specials", laid_drawloom_syntax_specials), ("drawloom/syntax.folds", laid_drawloom_syntax_folds), ("drawloom/syntax.exprShapes", laid_drawloom_syntax_exprShapes), ("drawloom/syntax.stmtShapes", laid_drawloom_syntax_stmtShapes)], narrowed := true }
def SyntaxWhereUptoSaid : Prop := syntaxWhereUptoRow.holds Tryz.pinned (OpenSpec.upto syntaxWhereSpec)

/-- 'drawloomlaw03.SyntaxMixed', WHERE WHAT IT READS IS OF BULK AT MOST 1048576: true; the input reads as it did. -/
def syntaxMixedUptoRow : OpenClaim := { program := "ytbkhnilbgocpnaagreatdoor", sum := "2c3fce9a69243957836aea6fda3edebe78db14eb40f19d7268fb0b74d3ef1c57", func := "drawloom/drawloomlaw03.SyntaxMixed", spec := "syntaxMixed", unfollowed := true, recurses := true, named := ["drawloom/lex.signs", "drawloom/syntax.prefixes", "drawloom/syntax.specials", "drawloom/syntax.infixes", "drawloom/syntax.exprShapes", "internal/strconv.uint64pow10", "math/bits.deBruijn32tab", "math/bits.deBruijn64tab", "drawloom/syntax.folds", "drawloom/syntax.stmtShapes"], loops := true, apart := false, laid := [("drawloom/lex.signs", laid_drawloom_lex_signs), ("math/bits.deBruijn32tab", laid_math_bits_deBruijn32tab), ("math/bits.deBruijn64tab", laid_math_bits_deBruijn64tab), ("internal/strconv.uint64pow10", laid_internal_strconv_uint64pow10), ("drawloom/syntax.infixes", laid_drawloom_syntax_infixes), ("drawloom/syntax.prefixes", laid_drawloom_syntax_prefixes), ("drawloom/syntax.specials", laid_drawloom_syntax_specials), ("drawloom/syntax.folds", laid_drawloom_syntax_folds), ("drawloom/syntax.exprShapes", laid_drawloom_syntax_exprShapes), ("drawloom/syntax.stmtShapes", laid_drawloom_syntax_stmtShapes)], narrowed := true }
def SyntaxMixedUptoSaid : Prop := syntaxMixedUptoRow.holds Tryz.pinned (OpenSpec.upto syntaxMixedSpec)

/-- 'drawloomlaw03.SyntaxNames', WHERE WHAT IT READS IS OF BULK AT MOST 1048576: true; the input reads as it did. -/
def syntaxNamesUptoRow : OpenClaim := { program := "ytbkhnilbgocpnaagreatdoor", sum := "2c3fce9a69243957836aea6fda3edebe78db14eb40f19d7268fb0b74d3ef1c57", func := "drawloom/drawloomlaw03.SyntaxNames", spec := "syntaxNames", unfollowed := true, recurses := true, named := ["drawloom/lex.signs", "drawloom/syntax.prefixes", "drawloom/syntax.specials", "drawloom/syntax.infixes", "drawloom/syntax.exprShapes", "internal/strconv.uint64pow10", "math/bits.deBruijn32tab", "math/bits.deBruijn64tab", "drawloom/syntax.folds", "drawloom/syntax.stmtShapes"], apart := false, laid := [("drawloom/lex.signs", laid_drawloom_lex_signs), ("math/bits.deBruijn32tab", laid_math_bits_deBruijn32tab), ("math/bits.deBruijn64tab", laid_math_bits_deBruijn64tab), ("internal/strconv.uint64pow10", laid_internal_strconv_uint64pow10), ("drawloom/syntax.infixes", laid_drawloom_syntax_infixes), ("drawloom/syntax.prefixes", laid_drawloom_syntax_prefixes), ("drawloom/syntax.specials", laid_drawloom_syntax_specials), ("drawloom/syntax.folds", laid_drawloom_syntax_folds), ("drawloom/syntax.exprShapes", laid_drawloom_syntax_exprShapes), ("drawloom/syntax.stmtShapes", laid_drawloom_syntax_stmtShapes)], narrowed := true }
def SyntaxNamesUptoSaid : Prop := syntaxNamesUptoRow.holds Tryz.pinned (OpenSpec.upto syntaxNamesSpec)

end Rows
end Go.Proofs.YtbkhnilbgocpnaaGreatDoor
