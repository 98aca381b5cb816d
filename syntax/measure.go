package syntax

import (
	"drawloom/api"
	"drawloom/lex"
)

// measure is the number of parts that were counted, and the greatest level of one. Levels are counted from 1 on, from the outermost expression and from the outermost statement, so that the greatest level is the depth.
//
// Its methods report whether all that they count is valid, and stop at the first part that is not. They end for every tree, even for one whose slices contain themselves, since they count at most one part more than a program may have.
type measure struct {
	parts, depth int
}

// validExpr reports whether an expression is valid.
func validExpr(e api.Expr) bool {
	var m measure
	return m.expr(e, 1)
}

// measureProgram returns the measure of a program, and whether it is valid but for the size of its text.
func measureProgram(p api.Program) (measure, bool) {
	var m measure
	ok := all(p.Funcs, m.function) && all(p.Kernels, m.kernel)
	return m, ok
}

func (m *measure) function(f api.Func) bool {
	return lex.Name(f.Name) && len(f.Params) <= api.MaxParams && all(f.Params, lex.Name) && m.stmts(f.Body, 1)
}

func (m *measure) kernel(k api.Kernel) bool {
	return lex.Name(k.Name) && len(k.Params) <= api.MaxParams && all(k.Params, fitsParam) &&
		len(k.Shared) <= api.MaxArrays && all(k.Shared, fitsArray) && m.stmts(k.Body, 1)
}

// stmts counts statements of a level.
func (m *measure) stmts(l []api.Stmt, level int) bool {
	return all(l, func(s api.Stmt) bool {
		return m.count(level) && fitsStmt(s) && m.exprs(s.Exprs, 1) && m.stmts(s.Body, level+1) && m.stmts(s.Else, level+1)
	})
}

// exprs counts expressions of a level.
func (m *measure) exprs(l []api.Expr, level int) bool {
	return all(l, func(e api.Expr) bool { return m.expr(e, level) })
}

func (m *measure) expr(e api.Expr, level int) bool {
	return m.count(level) && fitsExpr(e) && m.exprs(e.Kids, level+1)
}

// count counts a part, and reports whether there may be one more, of this level.
func (m *measure) count(level int) bool {
	m.parts++
	m.depth = max(m.depth, level)
	return m.parts <= api.MaxNodes && level <= api.MaxDepth
}
