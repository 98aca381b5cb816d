package syntax

import (
	"drawloom/api"
	"drawloom/lex"
)

// leastWord is the only negative word of an integer expression.
const leastWord = -1 << 31

// exprShape is what a kind of expression has: operators from 0 to ops - 1, a name, and at least and at most so many kids.
type exprShape struct {
	ops         int
	named       bool
	least, most int
}

var exprShapes = [api.EKinds]exprShape{
	api.EInt:     {ops: 1},
	api.EName:    {ops: 1, named: true},
	api.ESpecial: {ops: api.Specials},
	api.EUnary:   {ops: api.Unaries, least: 1, most: 1},
	api.EBinary:  {ops: api.Binaries, least: 2, most: 2},
	api.ELoad:    {ops: 1, named: true, least: 1, most: 1},
	api.ECall:    {ops: 1, named: true, most: api.MaxParams},
}

// stmtShape is what a kind of statement has: an operator that folds, a name, at least and at most so many expressions, a Body and an Else.
type stmtShape struct {
	folds, named bool
	least, most  int
	body, other  bool
}

var stmtShapes = [api.SKinds]stmtShape{
	api.SLet:      {named: true, least: 1, most: 1},
	api.SSet:      {named: true, least: 1, most: 1},
	api.SPut:      {named: true, least: 2, most: 2},
	api.SIf:       {least: 1, most: 1, body: true, other: true},
	api.SWhile:    {least: 1, most: 1, body: true},
	api.SBreak:    {},
	api.SContinue: {},
	api.SReturn:   {most: 1},
	api.SBarrier:  {},
	api.SAtomic:   {folds: true, named: true, least: 2, most: 2},
	api.SCollect:  {folds: true, named: true, least: 1, most: 1},
}

// fitsExpr reports whether the fields of an expression are those of its kind; it does not look into the kids.
func fitsExpr(e api.Expr) bool {
	if e.Kind < 0 || e.Kind >= api.EKinds {
		return false
	}
	shape := exprShapes[e.Kind]
	return 0 <= e.Op && e.Op < shape.ops && fitsInt(e) && fitsName(e.Name, shape.named) && shape.least <= len(e.Kids) && len(e.Kids) <= shape.most
}

func fitsInt(e api.Expr) bool {
	if e.Kind != api.EInt {
		return e.Int == 0
	}
	return e.Int >= 0 || e.Int == leastWord
}

// fitsName reports whether s is a name, or empty where there is none.
func fitsName(s string, named bool) bool {
	if !named {
		return s == ""
	}
	return lex.Name(s)
}

// fitsStmt reports whether the fields of a statement are those of its kind; it does not look into the parts.
func fitsStmt(s api.Stmt) bool {
	if s.Kind < 0 || s.Kind >= api.SKinds {
		return false
	}
	shape := stmtShapes[s.Kind]
	return fitsFold(s.Op, shape.folds) && fitsName(s.Name, shape.named) && shape.least <= len(s.Exprs) && len(s.Exprs) <= shape.most &&
		(shape.body || len(s.Body) == 0) && (shape.other || len(s.Else) == 0)
}

func fitsFold(op int, folds bool) bool {
	if !folds {
		return op == 0
	}
	_, ok := foldWord(op)
	return ok
}

func fitsParam(p api.Param) bool { return lex.Name(p.Name) }

func fitsArray(a api.Array) bool {
	return lex.Name(a.Name) && 1 <= a.Size && a.Size <= api.MaxShared
}

// all reports whether every item fits.
func all[T any](items []T, fits func(item T) bool) bool {
	for _, item := range items {
		if !fits(item) {
			return false
		}
	}
	return true
}
