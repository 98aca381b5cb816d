package syntax_test

import (
	"fmt"
	"math/rand"
	"reflect"
	"slices"
	"strings"

	"drawloom/api"
)

// The chapter's definitions, written down once more without the program's way.

var (
	binarySigns  = strings.Fields("+ - * / % & | ^ << >> >>> < <= == != <: && || min max")
	unarySigns   = strings.Fields("- ~ !")
	specialWords = strings.Fields("tid bid dim grid")
	foldWords    = map[int]string{api.Add: "add", api.Min: "min", api.Max: "max", api.And: "and", api.Or: "or", api.Xor: "xor"}
	foldOps      = []int{api.Add, api.Min, api.Max, api.And, api.Or, api.Xor}
	levelSigns   = []string{"", "||", "&&", "|", "^", "&", "== !=", "< <= > >= <:", "<< >> >>>", "+ -", "* / %"}
)

// levelOf returns the level of a binary operator between its operands.
func levelOf(sign string) int {
	return slices.IndexFunc(levelSigns, func(signs string) bool { return slices.Contains(strings.Fields(signs), sign) })
}

func isName(s string) bool { return len(s) <= 16 && symbolOf(s) == "name" }

// plainExpr returns a copy whose empty slices are nil.
func plainExpr(e api.Expr) api.Expr {
	var kids []api.Expr
	for _, kid := range e.Kids {
		kids = append(kids, plainExpr(kid))
	}
	e.Kids = kids
	return e
}

func plainStmts(l []api.Stmt) []api.Stmt {
	var out []api.Stmt
	for _, s := range l {
		var exprs []api.Expr
		for _, e := range s.Exprs {
			exprs = append(exprs, plainExpr(e))
		}
		s.Exprs, s.Body, s.Else = exprs, plainStmts(s.Body), plainStmts(s.Else)
		out = append(out, s)
	}
	return out
}

// plain returns a copy whose empty slices are nil.
func plain(p api.Program) api.Program {
	var out api.Program
	for _, f := range p.Funcs {
		out.Funcs = append(out.Funcs, api.Func{Name: f.Name, Params: append([]string(nil), f.Params...), Body: plainStmts(f.Body)})
	}
	for _, k := range p.Kernels {
		out.Kernels = append(out.Kernels, api.Kernel{Name: k.Name, Params: append([]api.Param(nil), k.Params...), Shared: append([]api.Array(nil), k.Shared...), Body: plainStmts(k.Body)})
	}
	return out
}

func same(a, b api.Program) bool { return reflect.DeepEqual(plain(a), plain(b)) }

func sameExpr(a, b api.Expr) bool { return reflect.DeepEqual(plainExpr(a), plainExpr(b)) }

// wantExprText returns the text of an expression by the chapter.
func wantExprText(e api.Expr) string {
	var kids []string
	for _, kid := range e.Kids {
		kids = append(kids, wantExprText(kid))
	}
	switch e.Kind {
	case api.EInt:
		if e.Int < 0 {
			return "2147483648"
		}
		return fmt.Sprint(e.Int)
	case api.EName:
		return e.Name
	case api.ESpecial:
		return specialWords[e.Op]
	case api.EUnary:
		return unarySigns[e.Op] + " " + kids[0]
	case api.ELoad:
		return e.Name + " [ " + kids[0] + " ]"
	case api.ECall:
		return e.Name + brackets("( ", strings.Join(kids, " , "), " )")
	}
	if sign := binarySigns[e.Op]; sign == "min" || sign == "max" {
		return fmt.Sprintf("%s ( %s , %s )", sign, kids[0], kids[1])
	}
	return fmt.Sprintf("( %s %s %s )", kids[0], binarySigns[e.Op], kids[1])
}

// brackets returns a text in brackets, with a blank before it.
func brackets(open, text, closing string) string {
	if text == "" {
		return " " + open + strings.TrimSpace(closing)
	}
	return " " + open + text + closing
}

func wantBlock(l []api.Stmt) string { return brackets("{ ", wantStmts(l), " }") }

func wantStmts(l []api.Stmt) string {
	var texts []string
	for _, s := range l {
		texts = append(texts, wantStmt(s))
	}
	return strings.Join(texts, " ")
}

func wantStmt(s api.Stmt) string {
	var e []string
	for _, x := range s.Exprs {
		e = append(e, wantExprText(x))
	}
	switch s.Kind {
	case api.SLet:
		return "let " + s.Name + " = " + e[0] + " ;"
	case api.SSet:
		return s.Name + " = " + e[0] + " ;"
	case api.SPut:
		return s.Name + " [ " + e[0] + " ] = " + e[1] + " ;"
	case api.SIf:
		text := "if " + e[0] + wantBlock(s.Body)
		if len(s.Else) > 0 {
			text += " else" + wantBlock(s.Else)
		}
		return text
	case api.SWhile:
		return "while " + e[0] + wantBlock(s.Body)
	case api.SReturn:
		return strings.Join(append(append([]string{"return"}, e...), ";"), " ")
	case api.SAtomic:
		return "atomic " + foldWords[s.Op] + " " + s.Name + " [ " + e[0] + " ] , " + e[1] + " ;"
	case api.SCollect:
		return "collect " + s.Name + " = " + foldWords[s.Op] + " " + e[0] + " ;"
	}
	return map[int]string{api.SBreak: "break ;", api.SContinue: "continue ;", api.SBarrier: "barrier ;"}[s.Kind]
}

// wantText returns the text of a program by the chapter.
func wantText(p api.Program) string {
	var texts []string
	for _, f := range p.Funcs {
		texts = append(texts, "func "+f.Name+brackets("( ", strings.Join(f.Params, " , "), " )")+wantBlock(f.Body))
	}
	for _, k := range p.Kernels {
		var params, inner []string
		for _, x := range k.Params {
			params = append(params, map[bool]string{false: "int ", true: "buffer "}[x.Buffer]+x.Name)
		}
		for _, a := range k.Shared {
			inner = append(inner, fmt.Sprintf("shared %s [ %d ] ;", a.Name, a.Size))
		}
		if len(k.Body) > 0 {
			inner = append(inner, wantStmts(k.Body))
		}
		texts = append(texts, "kernel "+k.Name+brackets("( ", strings.Join(params, " , "), " )")+brackets("{ ", strings.Join(inner, " "), " }"))
	}
	return strings.Join(texts, " ")
}

// depthOf returns the depth of an expression by the chapter, and calls part for each of its parts.
func depthOf(e api.Expr, part func(e api.Expr)) int {
	part(e)
	deepest := 0
	for _, kid := range e.Kids {
		deepest = max(deepest, depthOf(kid, part))
	}
	return deepest + 1
}

// count returns the number of parts and the depth of a program by the chapter.
func count(p api.Program) (int, int) {
	parts, depth := 0, 0
	var of func(l []api.Stmt) int
	of = func(l []api.Stmt) int {
		deepest := 0
		for _, s := range l {
			parts++
			for _, e := range s.Exprs {
				depth = max(depth, depthOf(e, func(api.Expr) { parts++ }))
			}
			deepest = max(deepest, 1+max(of(s.Body), of(s.Else)))
		}
		return deepest
	}
	for _, f := range p.Funcs {
		depth = max(depth, of(f.Body))
	}
	for _, k := range p.Kernels {
		depth = max(depth, of(k.Body))
	}
	return parts, depth
}

// maker makes trees, the same ones each time.
type maker struct {
	*rand.Rand
}

func newMaker(seed int64) maker { return maker{rand.New(rand.NewSource(seed))} }

func (m maker) name() string {
	return []string{"a", "b", "x1", "s_", "Z", "lets", "abcdefghijklmnop"}[m.Intn(7)]
}

func (m maker) word() int32 {
	return []int32{0, 1, 7, 10, 64, 2147483647, -2147483648}[m.Intn(7)]
}

// expr makes an expression of at most depth.
func (m maker) expr(depth int) api.Expr {
	kind := m.Intn(api.EKinds)
	if depth == 1 && kind >= api.EUnary && kind <= api.ELoad {
		kind = m.Intn(api.EUnary)
	}
	e := api.Expr{Kind: kind}
	kids := 0
	switch kind {
	case api.EInt:
		e.Int = m.word()
	case api.ESpecial:
		e.Op = m.Intn(api.Specials)
	case api.EUnary:
		e.Op, kids = m.Intn(api.Unaries), 1
	case api.EBinary:
		e.Op, kids = m.Intn(api.Binaries), 2
	case api.ELoad:
		kids = 1
	case api.ECall:
		kids = m.Intn(4)
	}
	if kind == api.EName || kind == api.ELoad || kind == api.ECall {
		e.Name = m.name()
	}
	for depth > 1 && len(e.Kids) < kids {
		e.Kids = append(e.Kids, m.expr(depth-1))
	}
	return e
}

func (m maker) exprs(n int) []api.Expr {
	var l []api.Expr
	for range n {
		l = append(l, m.expr(1+m.Intn(4)))
	}
	return l
}

func (m maker) stmts(depth int) []api.Stmt {
	var l []api.Stmt
	for depth > 0 && m.Intn(3) > 0 {
		l = append(l, m.stmt(depth))
	}
	return l
}

// stmt makes a statement of at most depth.
func (m maker) stmt(depth int) api.Stmt {
	s := api.Stmt{Kind: m.Intn(api.SKinds)}
	switch s.Kind {
	case api.SLet, api.SSet:
		s.Name, s.Exprs = m.name(), m.exprs(1)
	case api.SPut:
		s.Name, s.Exprs = m.name(), m.exprs(2)
	case api.SIf:
		s.Exprs, s.Body, s.Else = m.exprs(1), m.stmts(depth-1), m.stmts(depth-1)
	case api.SWhile:
		s.Exprs, s.Body = m.exprs(1), m.stmts(depth-1)
	case api.SReturn:
		s.Exprs = m.exprs(m.Intn(2))
	case api.SAtomic:
		s.Op, s.Name, s.Exprs = foldOps[m.Intn(6)], m.name(), m.exprs(2)
	case api.SCollect:
		s.Op, s.Name, s.Exprs = foldOps[m.Intn(6)], m.name(), m.exprs(1)
	}
	return s
}

func (m maker) program() api.Program {
	var p api.Program
	for range m.Intn(3) {
		f := api.Func{Name: m.name(), Body: m.stmts(4)}
		for range m.Intn(3) * m.Intn(4) {
			f.Params = append(f.Params, m.name())
		}
		p.Funcs = append(p.Funcs, f)
	}
	for range m.Intn(3) {
		k := api.Kernel{Name: m.name(), Body: m.stmts(5)}
		for range m.Intn(3) * m.Intn(4) {
			k.Params = append(k.Params, api.Param{Name: m.name(), Buffer: m.Intn(2) == 0})
		}
		for range m.Intn(5) {
			k.Shared = append(k.Shared, api.Array{Name: m.name(), Size: []int{1, 2, 9, 63, 64}[m.Intn(5)]})
		}
		p.Kernels = append(p.Kernels, k)
	}
	return p
}

// gap makes blanks and comments, at least one of them.
func (m maker) gap() string {
	return []string{" ", " ", " ", "\n", "\t", "\r\n", "  ", "#\n", "# let x = $;\n", "\n#1\n#2\n"}[m.Intn(10)]
}

// loose makes a source of an expression in which operators of at least lowest need no brackets: brackets are left out where levels allow it, and set where none are needed.
func (m maker) loose(e api.Expr, lowest int) string {
	if m.Intn(8) == 0 {
		return "(" + m.gap() + m.loose(e, 1) + " )"
	}
	switch e.Kind {
	case api.EInt:
		return strings.Repeat("0", m.Intn(3)) + wantExprText(e)
	case api.EUnary:
		return unarySigns[e.Op] + m.gap() + m.loose(e.Kids[0], 11)
	case api.ELoad:
		return e.Name + m.gap() + "[ " + m.loose(e.Kids[0], 1) + " ]"
	case api.ECall:
		var kids []string
		for _, kid := range e.Kids {
			kids = append(kids, m.loose(kid, 1))
		}
		return e.Name + m.gap() + "( " + strings.Join(kids, " ,"+m.gap()) + " )"
	case api.EBinary:
		return m.looseBinary(e, lowest)
	}
	return wantExprText(e)
}

func (m maker) looseBinary(e api.Expr, lowest int) string {
	sign, left, right := binarySigns[e.Op], e.Kids[0], e.Kids[1]
	if sign == "min" || sign == "max" {
		return sign + m.gap() + "( " + m.loose(left, 1) + " , " + m.loose(right, 1) + " )"
	}
	if (sign == "<" || sign == "<=") && m.Intn(2) == 0 {
		sign, left, right = strings.Replace(sign, "<", ">", 1), right, left
	}
	level := levelOf(sign)
	text := m.loose(left, level) + m.gap() + sign + m.gap() + m.loose(right, level+1)
	if level < lowest {
		return "( " + text + " )"
	}
	return text
}
