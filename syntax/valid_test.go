package syntax_test

import (
	"slices"
	"testing"

	"drawloom/api"
	"drawloom/syntax"
)

// isOf reports whether a kind is one of some kinds.
func isOf(kind int, kinds ...int) bool { return slices.Contains(kinds, kind) }

// wantFields reports whether the fields of an expression are those of its kind, by the chapter.
func wantFields(e api.Expr) bool {
	ops := map[int]int{api.EUnary: 3, api.EBinary: 20, api.ESpecial: 4}[e.Kind]
	if e.Kind < 0 || e.Kind > 6 || e.Op < 0 || e.Op >= max(ops, 1) {
		return false
	}
	if e.Kind == api.EInt && e.Int < 0 && e.Int != -2147483648 || e.Kind != api.EInt && e.Int != 0 {
		return false
	}
	if isOf(e.Kind, api.EName, api.ELoad, api.ECall) != (e.Name != "") || e.Name != "" && !isName(e.Name) {
		return false
	}
	if e.Kind == api.ECall {
		return len(e.Kids) <= 6
	}
	return len(e.Kids) == map[int]int{api.EUnary: 1, api.ELoad: 1, api.EBinary: 2}[e.Kind]
}

func wantValidExpr(e api.Expr) bool {
	parts, ok := 0, true
	depth := depthOf(e, func(e api.Expr) {
		parts++
		ok = ok && wantFields(e)
	})
	return ok && parts <= 400 && depth <= 12
}

// wantFieldsOf reports whether the fields of statements and of all in them are those of their kinds, by the chapter.
func wantFieldsOf(l []api.Stmt) bool {
	for _, s := range l {
		_, folds := foldWords[s.Op]
		if s.Kind < 0 || s.Kind > 10 || isOf(s.Kind, api.SAtomic, api.SCollect) && !folds || !isOf(s.Kind, api.SAtomic, api.SCollect) && s.Op != 0 {
			return false
		}
		if isOf(s.Kind, api.SLet, api.SSet, api.SPut, api.SAtomic, api.SCollect) != (s.Name != "") || s.Name != "" && !isName(s.Name) {
			return false
		}
		want := map[int]int{api.SLet: 1, api.SSet: 1, api.SIf: 1, api.SWhile: 1, api.SCollect: 1, api.SPut: 2, api.SAtomic: 2}[s.Kind]
		if n := len(s.Exprs); n != want && (s.Kind != api.SReturn || n != 1) {
			return false
		}
		if len(s.Body) > 0 && !isOf(s.Kind, api.SIf, api.SWhile) || len(s.Else) > 0 && s.Kind != api.SIf {
			return false
		}
		ok := wantFieldsOf(s.Body) && wantFieldsOf(s.Else)
		for _, e := range s.Exprs {
			depthOf(e, func(e api.Expr) { ok = ok && wantFields(e) })
		}
		if !ok {
			return false
		}
	}
	return true
}

func wantValid(p api.Program) bool {
	for _, f := range p.Funcs {
		if !isName(f.Name) || len(f.Params) > 6 || !wantFieldsOf(f.Body) {
			return false
		}
		for _, s := range f.Params {
			if !isName(s) {
				return false
			}
		}
	}
	for _, k := range p.Kernels {
		if !isName(k.Name) || len(k.Params) > 6 || len(k.Shared) > 4 || !wantFieldsOf(k.Body) {
			return false
		}
		for _, x := range k.Params {
			if !isName(x.Name) {
				return false
			}
		}
		for _, a := range k.Shared {
			if !isName(a.Name) || a.Size < 1 || a.Size > 64 {
				return false
			}
		}
	}
	parts, depth := count(p)
	return parts <= 400 && depth <= 12 && len(wantText(p)) <= 4000
}

// checkProgram compares all that is said of a program with the chapter.
func checkProgram(t *testing.T, p api.Program, valid bool) {
	t.Helper()
	before := plain(p)
	if got := syntax.Valid(p); got != valid {
		t.Errorf("%v: valid: %v", p, got)
	}
	text, e := syntax.Text(p)
	parts, depth, f := syntax.Size(p)
	if valid && (e != api.OK || f != api.OK || text != wantText(p)) || !valid && (e != api.ErrForm || f != api.ErrForm || text != "" || parts != 0 || depth != 0) {
		t.Errorf("%v: %q, %d, %d, %d, %d; valid: %v", p, text, e, parts, depth, f, valid)
	}
	if !same(p, before) {
		t.Errorf("%v is changed, it was %v", p, before)
	}
}

// checkExprOf checks an expression alone, as a part of another one, and in every place of a statement.
func checkExprOf(t *testing.T, e api.Expr, valid bool) {
	t.Helper()
	one := api.Expr{Kind: api.EInt, Int: 1}
	for _, x := range []api.Expr{
		e, {Kind: api.EUnary, Kids: []api.Expr{e}}, {Kind: api.EBinary, Kids: []api.Expr{e, one}}, {Kind: api.EBinary, Op: api.Max, Kids: []api.Expr{one, e}},
		{Kind: api.ELoad, Name: "a", Kids: []api.Expr{e}}, {Kind: api.ECall, Name: "f", Kids: []api.Expr{one, one, one, one, one, e}},
	} {
		text, err := syntax.ExprText(x)
		if valid && (err != api.OK || text != wantExprText(x)) || !valid && (err != api.ErrForm || text != "") {
			t.Errorf("%v: %q, %d; valid: %v", x, text, err, valid)
		}
	}
	for _, s := range []api.Stmt{
		{Kind: api.SLet, Name: "x", Exprs: []api.Expr{e}}, {Kind: api.SPut, Name: "x", Exprs: []api.Expr{e, one}}, {Kind: api.SPut, Name: "x", Exprs: []api.Expr{one, e}},
		{Kind: api.SIf, Exprs: []api.Expr{e}}, {Kind: api.SReturn, Exprs: []api.Expr{e}}, {Kind: api.SAtomic, Name: "x", Exprs: []api.Expr{one, e}},
	} {
		checkStmtOf(t, s, valid)
	}
}

// checkStmtOf checks a statement in a function and in a kernel, alone and within others.
func checkStmtOf(t *testing.T, s api.Stmt, valid bool) {
	t.Helper()
	one := []api.Expr{{Kind: api.EInt, Int: 1}}
	end := api.Stmt{Kind: api.SReturn}
	for _, l := range [][]api.Stmt{
		{s}, {end, s}, {{Kind: api.SIf, Exprs: one, Body: []api.Stmt{s}}}, {{Kind: api.SIf, Exprs: one, Else: []api.Stmt{end, s}}}, {{Kind: api.SWhile, Exprs: one, Body: []api.Stmt{s, end}}},
	} {
		checkProgram(t, api.Program{Funcs: []api.Func{{Name: "f"}, {Name: "g", Body: l}}}, valid)
		checkProgram(t, api.Program{Kernels: []api.Kernel{{Name: "k", Body: l}, {Name: "l"}}}, valid)
	}
}

// names are names and others.
var names = map[string]bool{
	"a": true, "Z9_": true, "abcdefghijklmnop": true, "lets": true, "if1": true,
	"": false, "abcdefghijklmnopq": false, "let": false, "tid": false, "min": false, "xor": false, "func": false, "1": false, "_a": false, "a b": false, " a": false, "a ": false, "a;": false, "a#": false, "\u00e9": false, "a\x00": false, "+": false, "(": false,
}

func TestNames(t *testing.T) {
	one := api.Expr{Kind: api.EInt, Int: 1}
	for s, valid := range names {
		checkExprOf(t, api.Expr{Kind: api.EName, Name: s}, valid)
		checkExprOf(t, api.Expr{Kind: api.ECall, Name: s}, valid)
		checkExprOf(t, api.Expr{Kind: api.ELoad, Name: s, Kids: []api.Expr{one}}, valid)
		for kind, exprs := range map[int]int{api.SLet: 1, api.SSet: 1, api.SPut: 2, api.SAtomic: 2, api.SCollect: 1} {
			checkStmtOf(t, api.Stmt{Kind: kind, Name: s, Exprs: []api.Expr{one, one}[:exprs]}, valid)
		}
		for kind, exprs := range map[int]int{api.SIf: 1, api.SWhile: 1, api.SBreak: 0, api.SContinue: 0, api.SReturn: 0, api.SBarrier: 0} {
			checkStmtOf(t, api.Stmt{Kind: kind, Name: s, Exprs: []api.Expr{one, one}[:exprs]}, s == "")
		}
		checkExprOf(t, api.Expr{Kind: api.EInt, Name: s}, s == "")
		checkExprOf(t, api.Expr{Kind: api.ESpecial, Name: s}, s == "")
		checkExprOf(t, api.Expr{Kind: api.EUnary, Name: s, Kids: []api.Expr{one}}, s == "")
		checkExprOf(t, api.Expr{Kind: api.EBinary, Name: s, Kids: []api.Expr{one, one}}, s == "")
		checkProgram(t, api.Program{Funcs: []api.Func{{Name: s}}}, valid)
		checkProgram(t, api.Program{Kernels: []api.Kernel{{Name: s}}}, valid)
		checkProgram(t, api.Program{Funcs: []api.Func{{Name: "f", Params: []string{"a", s}}}}, valid)
		checkProgram(t, api.Program{Kernels: []api.Kernel{{Name: "k", Params: []api.Param{{Name: "a"}, {Name: s}}}}}, valid)
		checkProgram(t, api.Program{Kernels: []api.Kernel{{Name: "k", Params: []api.Param{{Name: s, Buffer: true}}}}}, valid)
		checkProgram(t, api.Program{Kernels: []api.Kernel{{Name: "k", Shared: []api.Array{{Name: "a", Size: 1}, {Name: s, Size: 1}}}}}, valid)
	}
}

// TestFields gives each kind of expression and of statement every number of kids, operator and word.
func TestFields(t *testing.T) {
	one := api.Expr{Kind: api.EName, Name: "a"}
	for kind := -2; kind <= api.EKinds+1; kind++ {
		for op := -2; op <= api.Binaries+1; op++ {
			for kids := range 9 {
				if kids > 2 && op != 0 {
					continue
				}
				e := api.Expr{Kind: kind, Op: op}
				if isOf(kind, api.EName, api.ELoad, api.ECall) {
					e.Name = "a"
				}
				for range kids {
					e.Kids = append(e.Kids, one)
				}
				checkExprOf(t, e, wantFields(e))
			}
		}
		for _, word := range []int32{0, 1, 2147483647, -1, -2147483647, -2147483648} {
			e := api.Expr{Kind: kind, Int: word, Kids: []api.Expr{one, one}[:min(max(kind-2, 0), 2)%3]}
			if isOf(kind, api.EName, api.ELoad, api.ECall) {
				e.Name = "a"
			}
			if kind == api.ELoad {
				e.Kids = e.Kids[:1]
			}
			checkExprOf(t, e, wantFields(e))
		}
	}
	for kind := -2; kind <= api.SKinds+1; kind++ {
		for op := -2; op <= api.Binaries+1; op++ {
			for exprs := range 4 {
				for lists := range 4 {
					if exprs+lists > 2 && op > 2 {
						continue
					}
					s := api.Stmt{Kind: kind, Op: op, Exprs: []api.Expr{one, one, one}[:exprs], Body: []api.Stmt{{Kind: api.SBreak}}[:lists%2], Else: []api.Stmt{{Kind: api.SBarrier}}[:lists/2]}
					if isOf(kind, api.SLet, api.SSet, api.SPut, api.SAtomic, api.SCollect) {
						s.Name = "a"
					}
					checkStmtOf(t, s, wantFieldsOf([]api.Stmt{s}))
				}
			}
		}
	}
	for _, far := range []int{-1 << 63, 1<<63 - 1, 1 << 32, -1 << 32, 256, 1 << 16} {
		checkExprOf(t, api.Expr{Kind: far}, false)
		checkExprOf(t, api.Expr{Op: far}, false)
		checkExprOf(t, api.Expr{Kind: api.ESpecial, Op: far}, false)
		checkStmtOf(t, api.Stmt{Kind: far}, false)
		checkStmtOf(t, api.Stmt{Kind: api.SBreak, Op: far}, false)
		checkStmtOf(t, api.Stmt{Kind: api.SCollect, Op: far, Name: "a", Exprs: []api.Expr{one}}, false)
		checkProgram(t, api.Program{Kernels: []api.Kernel{{Name: "k", Shared: []api.Array{{Name: "a", Size: far}}}}}, false)
	}
}

// TestCounts gives functions and kernels every number of parameters and arrays, and arrays every size.
func TestCounts(t *testing.T) {
	for n := range 10 {
		f, k, shared := api.Func{Name: "f"}, api.Kernel{Name: "k"}, api.Kernel{Name: "k"}
		for range n {
			f.Params = append(f.Params, "a")
			k.Params = append(k.Params, api.Param{Name: "a", Buffer: n%2 == 0})
			shared.Shared = append(shared.Shared, api.Array{Name: "a", Size: 64})
		}
		checkProgram(t, api.Program{Funcs: []api.Func{f}}, n <= 6)
		checkProgram(t, api.Program{Kernels: []api.Kernel{k}}, n <= 6)
		checkProgram(t, api.Program{Kernels: []api.Kernel{{Name: "l"}, shared}}, n <= 4)
	}
	for size := -3; size < 70; size++ {
		checkProgram(t, api.Program{Kernels: []api.Kernel{{Name: "k", Shared: []api.Array{{Name: "a", Size: 1}, {Name: "a", Size: size}}}}}, size >= 1 && size <= 64)
	}
	checkProgram(t, api.Program{}, true)
}

// TestTextSize checks programs whose text is as long as it may be, and longer ones.
func TestTextSize(t *testing.T) {
	for n, want := range map[int]bool{3990: true, 3999: true, 4000: true, 4001: false, 4002: false, 4100: false} {
		p, _, _ := syntax.Parse(ofBytes(3985))
		for n > len(wantText(p)) {
			if n-len(wantText(p)) >= 8 {
				p.Kernels[0].Body = append(p.Kernels[0].Body, api.Stmt{Kind: api.SBreak})
			} else {
				p.Kernels[0].Name += "k"
			}
		}
		checkProgram(t, p, want)
	}
	p := api.Program{Funcs: make([]api.Func, 10000), Kernels: make([]api.Kernel, 10000)}
	for i := range 10000 {
		p.Funcs[i].Name, p.Kernels[i].Name = "f", "k"
	}
	checkProgram(t, p, false)
	p.Kernels = nil
	checkProgram(t, p, false)
	p.Funcs = p.Funcs[:267] // of 15 bytes each, the last blank left out
	checkProgram(t, p, false)
	p.Funcs = p.Funcs[:266]
	checkProgram(t, p, true)
}

// TestChanged changes programs at some place, and compares the program with the chapter.
func TestChanged(t *testing.T) {
	seen := map[bool]int{}
	for seed := range 6000 {
		m := newMaker(int64(seed))
		p := m.program()
		m.change(&p)
		valid := wantValid(p)
		seen[valid]++
		checkProgram(t, p, valid)
	}
	if seen[true] < 1000 || seen[false] < 1000 {
		t.Errorf("%v", seen)
	}
}

// change changes a field somewhere in a program.
func (m maker) change(p *api.Program) {
	var stmts []*api.Stmt
	var exprs []*api.Expr
	for i := range p.Funcs {
		parts(p.Funcs[i].Body, &stmts, &exprs)
	}
	for i := range p.Kernels {
		parts(p.Kernels[i].Body, &stmts, &exprs)
	}
	if len(exprs) > 0 && m.Intn(2) == 0 {
		m.changeExpr(exprs[m.Intn(len(exprs))])
	} else if len(stmts) > 0 {
		m.changeStmt(stmts[m.Intn(len(stmts))])
	}
}

// parts appends the addresses of all statements of a list, and of all expressions in them.
func parts(l []api.Stmt, stmts *[]*api.Stmt, exprs *[]*api.Expr) {
	for i := range l {
		*stmts = append(*stmts, &l[i])
		exprsOf(l[i].Exprs, exprs)
		parts(l[i].Body, stmts, exprs)
		parts(l[i].Else, stmts, exprs)
	}
}

func exprsOf(l []api.Expr, exprs *[]*api.Expr) {
	for i := range l {
		*exprs = append(*exprs, &l[i])
		exprsOf(l[i].Kids, exprs)
	}
}

func (m maker) changeExpr(e *api.Expr) {
	switch m.Intn(6) {
	case 0:
		e.Kind += m.Intn(3) - 1
	case 1:
		e.Op += m.Intn(5) - 2
	case 2:
		e.Int += int32(m.Intn(3) - 1)
	case 3:
		e.Name += []string{"", "x", "_", " "}[m.Intn(4)]
	case 4:
		e.Kids = append(e.Kids, m.expr(2))
	case 5:
		e.Kids = e.Kids[:m.Intn(len(e.Kids)+1)]
	}
}

func (m maker) changeStmt(s *api.Stmt) {
	switch m.Intn(7) {
	case 0:
		s.Kind += m.Intn(3) - 1
	case 1:
		s.Op += m.Intn(5) - 2
	case 2:
		s.Name += []string{"", "x", "_", " "}[m.Intn(4)]
	case 3:
		s.Exprs = append(s.Exprs, m.expr(2))
	case 4:
		s.Exprs = s.Exprs[:m.Intn(len(s.Exprs)+1)]
	case 5:
		s.Body = append(s.Body, m.stmt(2))
	case 6:
		s.Else = append(s.Else, m.stmt(2))
	}
}

// TestEndless checks trees whose slices contain themselves, or one another many times, and trees that are deep or wide: they are refused at once.
func TestEndless(t *testing.T) {
	kids := make([]api.Expr, 2)
	kids[0] = api.Expr{Kind: api.EBinary, Kids: kids}
	kids[1] = kids[0]
	tower := api.Expr{Kind: api.EInt}
	for range 100 {
		tower = api.Expr{Kind: api.EBinary, Kids: []api.Expr{tower, tower}}
	}
	bush := api.Expr{Kind: api.EInt}
	for range 11 {
		bush = api.Expr{Kind: api.ECall, Name: "f", Kids: []api.Expr{bush, bush, bush, bush, bush, bush}}
	}
	deep := api.Expr{Kind: api.EInt}
	for range 1 << 16 {
		deep = api.Expr{Kind: api.EUnary, Kids: []api.Expr{deep}}
	}
	wide := api.Expr{Kind: api.ECall, Name: "f", Kids: make([]api.Expr, 1<<20)}
	for _, e := range []api.Expr{kids[0], tower, bush, deep, wide} {
		if text, err := syntax.ExprText(e); text != "" || err != api.ErrForm {
			t.Errorf("%.50q, %d", text, err)
		}
		refused(t, []api.Stmt{{Kind: api.SReturn, Exprs: []api.Expr{e}}})
	}
	one := []api.Expr{{Kind: api.EInt}}
	body := make([]api.Stmt, 1)
	body[0] = api.Stmt{Kind: api.SWhile, Exprs: one, Body: body}
	other := make([]api.Stmt, 1)
	other[0] = api.Stmt{Kind: api.SIf, Exprs: one, Body: other, Else: other}
	var levels []api.Stmt
	for range 1 << 16 {
		levels = []api.Stmt{{Kind: api.SIf, Exprs: one, Else: levels}}
	}
	many := make([]api.Stmt, 1<<20)
	for i := range many {
		many[i].Kind = api.SBarrier
	}
	for _, l := range [][]api.Stmt{body, other, levels, many} {
		refused(t, l)
	}
}

// refused checks that a program with these statements is not valid.
func refused(t *testing.T, l []api.Stmt) {
	t.Helper()
	for _, p := range []api.Program{{Funcs: []api.Func{{Name: "f", Body: l}}}, {Kernels: []api.Kernel{{Name: "k", Body: l}}}} {
		text, e := syntax.Text(p)
		n, d, f := syntax.Size(p)
		if syntax.Valid(p) || text != "" || e != api.ErrForm || n != 0 || d != 0 || f != api.ErrForm {
			t.Errorf("%.50q, %d, %d, %d, %d", text, e, n, d, f)
		}
	}
}

// TestEmpty gives lists that are empty instead of nil.
func TestEmpty(t *testing.T) { // R4
	none := api.Expr{Kind: api.EInt, Kids: []api.Expr{}}
	body := []api.Stmt{
		{Kind: api.SLet, Name: "a", Exprs: []api.Expr{none}, Body: []api.Stmt{}, Else: []api.Stmt{}},
		{Kind: api.SIf, Exprs: []api.Expr{none}, Body: []api.Stmt{}, Else: []api.Stmt{}},
		{Kind: api.SReturn, Exprs: []api.Expr{}, Body: []api.Stmt{}, Else: []api.Stmt{}},
	}
	for _, p := range []api.Program{
		{Funcs: []api.Func{}, Kernels: []api.Kernel{}},
		{Funcs: []api.Func{{Name: "f", Params: []string{}, Body: body}}, Kernels: []api.Kernel{}},
		{Funcs: []api.Func{}, Kernels: []api.Kernel{{Name: "k", Params: []api.Param{}, Shared: []api.Array{}, Body: body}}},
		{Funcs: []api.Func{{Name: "f", Body: []api.Stmt{}}}, Kernels: []api.Kernel{{Name: "k", Body: []api.Stmt{}}}},
	} {
		checkProgram(t, p, true)
	}
	checkExprOf(t, none, true)
	checkExprOf(t, api.Expr{Kind: api.ECall, Name: "f", Kids: []api.Expr{}}, true)
}
