package syntax

import (
	"strconv"

	"drawloom/api"
	"drawloom/lex"
)

// writer collects the tokens of a text. It writes valid trees only.
type writer struct {
	tokens []api.Token
}

// exprText returns the text of a valid expression.
func exprText(e api.Expr) string {
	var w writer
	w.expr(e)
	return lex.Join(w.tokens)
}

// programText returns the text of a program that is valid but for the size of its text.
func programText(p api.Program) string {
	var w writer
	for _, f := range p.Funcs {
		w.function(f)
	}
	for _, k := range p.Kernels {
		w.kernel(k)
	}
	return lex.Join(w.tokens)
}

func (w *writer) put(texts ...string) {
	for _, text := range texts {
		w.tokens = append(w.tokens, api.Token{Text: text})
	}
}

// putList writes items with commas between them, in round brackets.
func putList[T any](w *writer, items []T, put func(item T)) {
	w.put("(")
	for i, item := range items {
		if i > 0 {
			w.put(",")
		}
		put(item)
	}
	w.put(")")
}

func (w *writer) function(f api.Func) {
	w.put("func", f.Name)
	putList(w, f.Params, func(name string) { w.put(name) })
	w.block(f.Body)
}

func (w *writer) kernel(k api.Kernel) {
	w.put("kernel", k.Name)
	putList(w, k.Params, w.param)
	w.put("{")
	for _, a := range k.Shared {
		w.put("shared", a.Name, "[", strconv.Itoa(a.Size), "]", ";")
	}
	w.restOfBlock(k.Body)
}

func (w *writer) param(p api.Param) {
	if p.Buffer {
		w.put("buffer", p.Name)
	} else {
		w.put("int", p.Name)
	}
}

func (w *writer) block(l []api.Stmt) {
	w.put("{")
	w.restOfBlock(l)
}

// restOfBlock writes statements and the closing bracket of their block.
func (w *writer) restOfBlock(l []api.Stmt) {
	for _, s := range l {
		w.stmt(s)
	}
	w.put("}")
}

func (w *writer) stmt(s api.Stmt) {
	switch s.Kind {
	case api.SIf:
		w.put("if")
		w.expr(s.Exprs[0])
		w.block(s.Body)
		if len(s.Else) > 0 {
			w.put("else")
			w.block(s.Else)
		}
	case api.SWhile:
		w.put("while")
		w.expr(s.Exprs[0])
		w.block(s.Body)
	default:
		w.simple(s)
		w.put(";")
	}
}

// simple writes a statement that ends with a semicolon, without it.
func (w *writer) simple(s api.Stmt) {
	switch s.Kind {
	case api.SLet:
		w.put("let", s.Name, "=")
		w.expr(s.Exprs[0])
	case api.SSet:
		w.put(s.Name, "=")
		w.expr(s.Exprs[0])
	case api.SPut:
		w.cell(s, "=")
	case api.SBreak:
		w.put("break")
	case api.SContinue:
		w.put("continue")
	case api.SReturn:
		w.put("return")
		for _, e := range s.Exprs {
			w.expr(e)
		}
	case api.SBarrier:
		w.put("barrier")
	case api.SAtomic:
		word, _ := foldWord(s.Op)
		w.put("atomic", word)
		w.cell(s, ",")
	case api.SCollect:
		word, _ := foldWord(s.Op)
		w.put("collect", s.Name, "=", word)
		w.expr(s.Exprs[0])
	}
}

// cell writes the cell that a statement changes, a sign, and the second expression.
func (w *writer) cell(s api.Stmt, sign string) {
	w.put(s.Name, "[")
	w.expr(s.Exprs[0])
	w.put("]", sign)
	w.expr(s.Exprs[1])
}

func (w *writer) expr(e api.Expr) {
	switch e.Kind {
	case api.EInt:
		w.put(strconv.FormatUint(uint64(uint32(e.Int)), 10)) // the least word is written without its sign
	case api.EName:
		w.put(e.Name)
	case api.ESpecial:
		w.put(specials[e.Op])
	case api.EUnary:
		w.put(prefixes[e.Op])
		w.expr(e.Kids[0])
	case api.EBinary:
		w.binary(e)
	case api.ELoad:
		w.put(e.Name, "[")
		w.expr(e.Kids[0])
		w.put("]")
	case api.ECall:
		w.put(e.Name)
		putList(w, e.Kids, w.expr)
	}
}

func (w *writer) binary(e api.Expr) {
	sign, ok := infixSign(e.Op)
	if !ok { // min and max fold, and are written with the same words
		word, _ := foldWord(e.Op)
		w.put(word)
		putList(w, e.Kids, w.expr)
		return
	}
	w.put("(")
	w.expr(e.Kids[0])
	w.put(sign)
	w.expr(e.Kids[1])
	w.put(")")
}
