package syntax_test

import (
	"strings"
	"testing"

	"drawloom/api"
	"drawloom/lex"
	"drawloom/syntax"
)

// sources are programs.
var sources = []string{
	"", " ", "# nothing", "\n#\n",
	"func f(){}", "kernel k(){}", "func f(){} func f(){} kernel f(){} kernel f(){}",
	"kernel k(buffer a) { a[0] = tid; }",
	"func f(a, b) { return (a + b) * -c % 2; } kernel k(buffer a, int n) { shared s[64]; a[tid] = min(1, n) <: 2; barrier; }",
	"kernel k(buffer a) { # store\r\n\tlet i = tid + bid * dim;\n\twhile i < 256 { atomic add a[i], i >> 1; i = i + dim * grid; if i == 9 { break; } else { continue; } }\n\tcollect i = xor ~i;\n}# end",
	"kernel k(int a, buffer b, int c, buffer d, int e, buffer f) { shared p[1]; shared q[2]; shared r[63]; shared s[64]; return; return 1; }",
	"kernel k() { if 1 { } if 1 { } else { } if 1 { barrier; } else { } if 1 { } else { barrier; } while 0 { } }",
	"kernel k() { collect x = min min(1, 2); collect x = max max(1, 2); collect x = and (1); collect x = or -1; collect x = add f(); collect x = xor tid; }",
	"kernel k() { atomic add a[1], 2; atomic min a[1], min(1, 2); atomic max a[1], 2; atomic and a[1], 2; atomic or a[a[1]], 2; atomic xor a[1], a[2]; }",
	"kernel k() { if a >= b > c { x = !~-y; } } func f(a, a) { a = f(); a = f(1); a = f(1, 2, 3, 4, 5, 6); return 2147483648; }",
	"func f(a) { a[1] = 2; barrier; break; continue; return; atomic add a[1], 2; collect a = add tid; }",
	"kernel k() { x = ((((1)))); x = a[((2))]; x = f((3), ((4))); x = 1 + (2 + 3) + 4; x = (1 < 2) < (3 < 4); }",
}

// eachProgram calls check with the programs of the sources and with programs that are made.
func eachProgram(t *testing.T, check func(p api.Program)) {
	t.Helper()
	for _, s := range sources {
		p, at, e := syntax.Parse(s)
		if at != 0 || e != api.OK {
			t.Errorf("%q: %d, %d", s, at, e)
		}
		check(p)
	}
	valid := 0
	for seed := range 1500 {
		p := newMaker(int64(seed)).program()
		if wantValid(p) {
			valid++
			check(p)
		}
	}
	if valid < 800 {
		t.Errorf("only %d programs", valid)
	}
}

func TestThereAndBack(t *testing.T) { // P3.1
	eachProgram(t, func(p api.Program) {
		text, e := syntax.Text(p)
		if e != api.OK || text != wantText(p) {
			t.Fatalf("%v: %q, %d, want %q", p, text, e, wantText(p))
		}
		back, at, e := syntax.Parse(text)
		if !same(back, p) || at != 0 || e != api.OK {
			t.Fatalf("%q: %v, %d, %d, want %v", text, back, at, e, p)
		}
		if again, e := syntax.Text(back); again != text || e != api.OK {
			t.Fatalf("%q: %q, %d", text, again, e)
		}
	})
}

func TestThereAndBackOfExpressions(t *testing.T) { // P3.1
	for seed := range 2000 {
		x := newMaker(int64(seed)).expr(1 + seed%7)
		text, e := syntax.ExprText(x)
		if !wantValidExpr(x) {
			if text != "" || e != api.ErrForm {
				t.Fatalf("%v: %q, %d", x, text, e)
			}
			continue
		}
		if e != api.OK || text != wantExprText(x) {
			t.Fatalf("%v: %q, %d, want %q", x, text, e, wantExprText(x))
		}
		if len(text) > api.MaxText {
			continue
		}
		if back, at, e := syntax.Expr(text); !sameExpr(back, x) || at != 0 || e != api.OK {
			t.Fatalf("%q: %v, %d, %d, want %v", text, back, at, e, x)
		}
	}
}

func TestText(t *testing.T) {
	for s, want := range map[string]string{
		"":                                  "",
		"kernel k(buffer a){a[0]=tid;}":     "kernel k ( buffer a ) { a [ 0 ] = tid ; }",
		"func f(){}":                        "func f ( ) { }",
		"func f(a){} kernel k(int a){}":     "func f ( a ) { } kernel k ( int a ) { }",
		"kernel k(){} func f(a,b){return;}": "func f ( a , b ) { return ; } kernel k ( ) { }",
		"kernel k(int a,buffer b){shared s[007];shared t[64];}":                                       "kernel k ( int a , buffer b ) { shared s [ 7 ] ; shared t [ 64 ] ; }",
		"kernel k(){}func f(){}kernel l(){}func g(){}":                                                "func f ( ) { } func g ( ) { } kernel k ( ) { } kernel l ( ) { }",
		"kernel k(){if a{}else{}if b{c=1;}else{if d{}else{return 2147483648;}}}":                      "kernel k ( ) { if a { } if b { c = 1 ; } else { if d { } else { return 2147483648 ; } } }",
		"kernel k(){let a=0001;while a{break;continue;}atomic or a[1],2;collect b=xor!a;barrier;}":    "kernel k ( ) { let a = 1 ; while a { break ; continue ; } atomic or a [ 1 ] , 2 ; collect b = xor ! a ; barrier ; }",
		"kernel k(){a[b>c]=(d>=e);return min(max(1,2),(3)+(4));return f()+g(1)+h(1,2)+a[0]+(-(-1));}": "kernel k ( ) { a [ ( c < b ) ] = ( e <= d ) ; return min ( max ( 1 , 2 ) , ( 3 + 4 ) ) ; return ( ( ( ( f ( ) + g ( 1 ) ) + h ( 1 , 2 ) ) + a [ 0 ] ) + - - 1 ) ; }",
	} {
		p, at, e := syntax.Parse(s)
		if got, f := syntax.Text(p); got != want || at != 0 || e != api.OK || f != api.OK {
			t.Errorf("%q: %q, %d, %d, %d, want %q", s, got, at, e, f, want)
		}
	}
}

// TestTrees compares whole trees: those of all kinds of statements and expressions.
func TestTrees(t *testing.T) {
	word := func(n int32) api.Expr { return api.Expr{Kind: api.EInt, Int: n} }
	name := func(s string) api.Expr { return api.Expr{Kind: api.EName, Name: s} }
	list := func(l ...api.Expr) []api.Expr { return l }
	for s, want := range map[string]api.Stmt{
		"let x = 1;":            {Kind: api.SLet, Name: "x", Exprs: list(word(1))},
		"x = 2147483647;":       {Kind: api.SSet, Name: "x", Exprs: list(word(2147483647))},
		"x[1] = 2;":             {Kind: api.SPut, Name: "x", Exprs: list(word(1), word(2))},
		"if 1 { }":              {Kind: api.SIf, Exprs: list(word(1))},
		"if 1 { } else { }":     {Kind: api.SIf, Exprs: list(word(1))},
		"if y { break; }":       {Kind: api.SIf, Exprs: list(name("y")), Body: []api.Stmt{{Kind: api.SBreak}}},
		"if y {} else {y=y;}":   {Kind: api.SIf, Exprs: list(name("y")), Else: []api.Stmt{{Kind: api.SSet, Name: "y", Exprs: list(name("y"))}}},
		"while 0 { return; }":   {Kind: api.SWhile, Exprs: list(word(0)), Body: []api.Stmt{{Kind: api.SReturn}}},
		"break;":                {Kind: api.SBreak},
		"continue;":             {Kind: api.SContinue},
		"return;":               {Kind: api.SReturn},
		"return 2147483648;":    {Kind: api.SReturn, Exprs: list(word(-2147483648))},
		"barrier;":              {Kind: api.SBarrier},
		"atomic add x[1], 2;":   {Kind: api.SAtomic, Op: api.Add, Name: "x", Exprs: list(word(1), word(2))},
		"atomic min x[1], 2;":   {Kind: api.SAtomic, Op: api.Min, Name: "x", Exprs: list(word(1), word(2))},
		"atomic max x[1], 2;":   {Kind: api.SAtomic, Op: api.Max, Name: "x", Exprs: list(word(1), word(2))},
		"collect x = and 1;":    {Kind: api.SCollect, Op: api.And, Name: "x", Exprs: list(word(1))},
		"collect x = or 1;":     {Kind: api.SCollect, Op: api.Or, Name: "x", Exprs: list(word(1))},
		"collect x = xor 1;":    {Kind: api.SCollect, Op: api.Xor, Name: "x", Exprs: list(word(1))},
		"x = y;":                {Kind: api.SSet, Name: "x", Exprs: list(name("y"))},
		"x = y[3];":             {Kind: api.SSet, Name: "x", Exprs: list(api.Expr{Kind: api.ELoad, Name: "y", Kids: list(word(3))})},
		"x = y();":              {Kind: api.SSet, Name: "x", Exprs: list(api.Expr{Kind: api.ECall, Name: "y"})},
		"x = y(3, z);":          {Kind: api.SSet, Name: "x", Exprs: list(api.Expr{Kind: api.ECall, Name: "y", Kids: list(word(3), name("z"))})},
		"x = (((y)));":          {Kind: api.SSet, Name: "x", Exprs: list(name("y"))},
		"x = min(1, 2);":        {Kind: api.SSet, Name: "x", Exprs: list(api.Expr{Kind: api.EBinary, Op: api.Min, Kids: list(word(1), word(2))})},
		"x = max(1, 2);":        {Kind: api.SSet, Name: "x", Exprs: list(api.Expr{Kind: api.EBinary, Op: api.Max, Kids: list(word(1), word(2))})},
		"collect x = min tid;":  {Kind: api.SCollect, Op: api.Min, Name: "x", Exprs: list(api.Expr{Kind: api.ESpecial, Op: api.Tid})},
		"collect x = max grid;": {Kind: api.SCollect, Op: api.Max, Name: "x", Exprs: list(api.Expr{Kind: api.ESpecial, Op: api.Grid})},
		"x = bid;":              {Kind: api.SSet, Name: "x", Exprs: list(api.Expr{Kind: api.ESpecial, Op: api.Bid})},
		"x = dim;":              {Kind: api.SSet, Name: "x", Exprs: list(api.Expr{Kind: api.ESpecial, Op: api.Dim})},
	} {
		body := []api.Stmt{want}
		p, at, e := syntax.Parse("kernel k(int m, buffer n) { shared o[5];" + s + "}")
		if want := (api.Program{Kernels: []api.Kernel{{Name: "k", Params: []api.Param{{Name: "m"}, {Name: "n", Buffer: true}}, Shared: []api.Array{{Name: "o", Size: 5}}, Body: body}}}); !same(p, want) || at != 0 || e != api.OK {
			t.Errorf("%q: %v, %d, %d, want %v", s, p, at, e, want)
		}
		p, at, e = syntax.Parse("func f(m, n) {" + s + "} func g() {}")
		if want := (api.Program{Funcs: []api.Func{{Name: "f", Params: []string{"m", "n"}, Body: body}, {Name: "g"}}}); !same(p, want) || at != 0 || e != api.OK {
			t.Errorf("%q: %v, %d, %d, want %v", s, p, at, e, want)
		}
	}
}

// respaced returns the tokens of a text with other gaps between them.
func respaced(m maker, s string) string {
	l, _, _ := lex.Tokens(s)
	text := m.gap()
	for _, token := range l {
		text += token.Text + m.gap()
	}
	return text + []string{"", "# end", "#"}[m.Intn(3)]
}

func TestBlanks(t *testing.T) { // P3.2
	m, changed := newMaker(32), 0
	eachProgram(t, func(p api.Program) {
		text, _ := syntax.Text(p)
		other := respaced(m, text)
		if len(other) > api.MaxText {
			if got, at, e := syntax.Parse(other); !same(got, api.Program{}) || at != 0 || e != api.ErrSize {
				t.Fatalf("%q: %v, %d, %d", other, got, at, e)
			}
			return
		}
		changed++
		if got, at, e := syntax.Parse(other); !same(got, p) || at != 0 || e != api.OK {
			t.Fatalf("%q: %v, %d, %d, want %v", other, got, at, e, p)
		}
	})
	if changed < 400 {
		t.Errorf("only %d texts", changed)
	}
}

// TestMixed checks that functions and kernels may be mixed.
func TestMixed(t *testing.T) {
	m := newMaker(33)
	eachProgram(t, func(p api.Program) {
		var text string
		funcs, kernels := p.Funcs, p.Kernels
		for len(funcs)+len(kernels) > 0 {
			if len(kernels) == 0 || len(funcs) > 0 && m.Intn(2) == 0 {
				text += wantText(api.Program{Funcs: funcs[:1]}) + " "
				funcs = funcs[1:]
			} else {
				text += wantText(api.Program{Kernels: kernels[:1]}) + " "
				kernels = kernels[1:]
			}
		}
		if len(text) > api.MaxText {
			return
		}
		if got, at, e := syntax.Parse(text); !same(got, p) || at != 0 || e != api.OK {
			t.Fatalf("%q: %v, %d, %d, want %v", text, got, at, e, p)
		}
	})
}

// infixSigns are the operators that stand between their operands.
var infixSigns = strings.Fields(strings.Join(levelSigns, " "))

// treeText returns the text of the tree of a sign between two texts.
func treeText(left, sign, right string) string {
	if sign[0] == '>' && !strings.HasPrefix(sign, ">>") {
		return "( " + right + " " + strings.Replace(sign, ">", "<", 1) + " " + left + " )"
	}
	return "( " + left + " " + sign + " " + right + " )"
}

// levelText returns the text of the tree of operands with signs between them: it splits at the last one of the lowest level.
func levelText(operands, signs []string) string {
	if len(signs) == 0 {
		return operands[0]
	}
	split := 0
	for i, sign := range signs {
		if levelOf(sign) <= levelOf(signs[split]) {
			split = i
		}
	}
	return treeText(levelText(operands[:split+1], signs[:split]), signs[split], levelText(operands[split+1:], signs[split+1:]))
}

// checkExpr checks the text of the expression of a source.
func checkExpr(t *testing.T, s, want string) {
	t.Helper()
	x, at, e := syntax.Expr(s)
	if got, f := syntax.ExprText(x); got != want || at != 0 || e != api.OK || f != api.OK {
		t.Errorf("%q: %q, %d, %d, %d, want %q", s, got, at, e, f, want)
	}
}

func TestLevels(t *testing.T) { // P3.3
	if len(infixSigns) != 20 {
		t.Errorf("%v", infixSigns)
	}
	for _, one := range infixSigns {
		checkExpr(t, "a"+one+"b", treeText("a", one, "b"))
		for _, sign := range unarySigns {
			checkExpr(t, sign+"a"+one+sign+"b", treeText(sign+" a", one, sign+" b"))
			checkExpr(t, sign+"(a"+one+"b)", sign+" "+treeText("a", one, "b"))
			checkExpr(t, sign+"a[b"+one+"c]"+one+"d", treeText(sign+" a [ "+treeText("b", one, "c")+" ]", one, "d"))
		}
		for _, two := range infixSigns {
			checkExpr(t, "a"+one+"b"+two+"c", levelText([]string{"a", "b", "c"}, []string{one, two}))
			checkExpr(t, "a"+one+"(b"+two+"c)", treeText("a", one, treeText("b", two, "c")))
			checkExpr(t, "(a"+one+"b)"+two+"c", treeText(treeText("a", one, "b"), two, "c"))
			for _, three := range infixSigns {
				checkExpr(t, "a"+one+"b"+two+"c"+three+"d", levelText([]string{"a", "b", "c", "d"}, []string{one, two, three}))
			}
		}
	}
	for s, want := range map[string]string{
		"a + b * -c": "( a + ( b * - c ) )", "a > b": "( b < a )", "a >= b": "( b <= a )", "a > b > c": "( c < ( b < a ) )", "a < b > c": "( c < ( a < b ) )",
		"-~!a": "- ~ ! a", "- - -a": "- - - a", "!a[1]": "! a [ 1 ]", "-f(1) * 2": "( - f ( 1 ) * 2 )", "- 2147483648": "- 2147483648", "-(-1)": "- - 1",
		"1 - 2 - 3 - 4": "( ( ( 1 - 2 ) - 3 ) - 4 )", "1||2&&3|4^5&6==7<8<<9+10*-11": "( 1 || ( 2 && ( 3 | ( 4 ^ ( 5 & ( 6 == ( 7 < ( 8 << ( 9 + ( 10 * - 11 ) ) ) ) ) ) ) ) ) )",
		"-11*10+9<<8<7==6&5^4|3&&2||1": "( ( ( ( ( ( ( ( ( ( - 11 * 10 ) + 9 ) << 8 ) < 7 ) == 6 ) & 5 ) ^ 4 ) | 3 ) && 2 ) || 1 )",
	} {
		checkExpr(t, s, want)
	}
}

// TestLoose parses sources in which brackets stand only where levels need them, and where they do no harm.
func TestLoose(t *testing.T) { // P3.2, P3.3
	parsed := 0
	for seed := range 3000 {
		m := newMaker(int64(seed))
		x := m.expr(1 + seed%6)
		s := m.loose(x, 1)
		if !wantValidExpr(x) || len(s) > api.MaxText {
			continue
		}
		parsed++
		if got, at, e := syntax.Expr(s); !sameExpr(got, x) || at != 0 || e != api.OK {
			t.Fatalf("%q: %v, %d, %d, want %v", s, got, at, e, x)
		}
	}
	if parsed < 2500 {
		t.Errorf("only %d sources", parsed)
	}
}

func TestSize(t *testing.T) {
	eachProgram(t, func(p api.Program) {
		parts, depth := count(p)
		if n, d, e := syntax.Size(p); n != parts || d != depth || e != api.OK {
			t.Errorf("%v: %d, %d, %d, want %d, %d", p, n, d, e, parts, depth)
		}
	})
	for s, want := range map[string][2]int{
		"": {0, 0}, "func f(a){} kernel k(int b){shared s[1];}": {0, 0}, "kernel k(){barrier;}": {1, 1}, "kernel k(){return 1;}": {2, 1}, "kernel k(){return -1;}": {3, 2},
		"kernel k(){if 1{if 2{}}}": {4, 2}, "kernel k(){if 1{}else{if 2{while 3{}}}}": {6, 3}, "kernel k(){if 1{barrier;}else{barrier;}}": {4, 2},
		"kernel k(){if 1+2*3{}}": {6, 3}, "func f(){return f(1,a[2],3);} kernel k(){while 1{a[1]=2;}}": {6 + 5, 3}, "kernel k(){x=f();}": {2, 1},
		"func f(){if 1{}} func g(){if 1{if 1{}}} kernel k(){break;}": {7, 2}, "kernel k(){break;} kernel l(){if 1{break;}}": {4, 2},
	} {
		p, _, _ := syntax.Parse(s)
		if n, d, e := syntax.Size(p); n != want[0] || d != want[1] || e != api.OK {
			t.Errorf("%q: %d, %d, %d, want %v", s, n, d, e, want)
		}
	}
}
