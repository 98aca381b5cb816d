package syntax_test

import (
	"strings"
	"testing"

	"drawloom/api"
	"drawloom/syntax"
)

// inKernel returns a kernel with a body.
func inKernel(body string) string { return "kernel k(){" + body + "}" }

// nested returns a text between n openings and as many closings.
func nested(n int, open, text, closing string) string {
	return strings.Repeat(open, n) + text + strings.Repeat(closing, n)
}

// ofParts returns an expression of n parts whose depth is as small as calls with at most 6 kids allow.
func ofParts(n int) string {
	if n == 1 {
		return "1"
	}
	var kids []string
	for left := min(6, n-1); left > 0; left-- {
		share := (n - 1) / left
		kids = append(kids, ofParts(share))
		n -= share
	}
	return "f(" + strings.Join(kids, ",") + ")"
}

// ofBytes returns a program that is its own text and has n bytes.
func ofBytes(n int) string {
	body := strings.Repeat("let abcdefghijklmnop = ( abcdefghijklmnop + abcdefghijklmnop ) ; ", 61)
	left := n - len("kernel k ( ) { "+body+"}")
	return "kernel k" + strings.Repeat("k", left%8) + " ( ) { " + body + strings.Repeat("break ; ", left/8) + "}"
}

// TestLimits checks programs at each limit, and beyond it.
func TestLimits(t *testing.T) { // P3.5
	for _, x := range []struct{ fits, exceeds string }{
		{"func f(a,b,c,d,e,f){}", "func f(a,b,c,d,e,f,g){}"},
		{"kernel k(int a,int b,int c,buffer d,buffer e,buffer f){}", "kernel k(int a,int b,int c,buffer d,buffer e,buffer f,int g){}"},
		{inKernel("shared a[1];shared b[1];shared c[1];shared d[1];"), inKernel("shared a[1];shared b[1];shared c[1];shared d[1];shared e[1];")},
		{inKernel("shared a[1];"), inKernel("shared a[0];")},
		{inKernel("shared a[64];"), inKernel("shared a[65];")},
		{inKernel("shared a[00064];"), inKernel("shared a[2147483648];")},
		{inKernel("shared a[63];"), inKernel("shared a[2147483647];")},
		{inKernel("shared a[1];shared b[64];"), inKernel("shared a[1];shared b[65];")},
		{inKernel("x=f(1,2,3,4,5,6);"), inKernel("x=f(1,2,3,4,5,6,7);")},
		{inKernel("x=f(1,2,3,4,5,6);"), inKernel("x=-a[f(1,2,3,4,5,6,7)];")},
		{inKernel(strings.Repeat("break;", 400)), inKernel(strings.Repeat("break;", 401))},
		{inKernel(strings.Repeat("x=1;", 200)), inKernel(strings.Repeat("x=1;", 200) + "break;")},
		{"func f(){" + strings.Repeat("x=1;", 199) + "return;}" + inKernel("break;"), "func f(){" + strings.Repeat("x=1;", 200) + "}" + inKernel("break;")},
		{inKernel(strings.Repeat("break;", 398) + "if 1{}"), inKernel(strings.Repeat("break;", 398) + "if 1{break;}")},
		{inKernel(strings.Repeat("break;", 397) + "if 1{}else{break;}"), inKernel(strings.Repeat("break;", 397) + "if 1{break;}else{break;}")},
		{inKernel("x=" + ofParts(399) + ";"), inKernel("x=" + ofParts(400) + ";")},
		{inKernel("a[" + ofParts(200) + "]=" + ofParts(199) + ";"), inKernel("a[" + ofParts(200) + "]=" + ofParts(200) + ";")},
		{inKernel("x=" + nested(11, "-", "1", "") + ";"), inKernel("x=" + nested(12, "-", "1", "") + ";")},
		{inKernel("x=1" + strings.Repeat("+1", 11) + ";"), inKernel("x=1" + strings.Repeat("+1", 12) + ";")},
		{inKernel("x=" + nested(11, "1+(", "1", ")") + ";"), inKernel("x=" + nested(12, "1+(", "1", ")") + ";")},
		{inKernel("x=" + nested(11, "a[", "1", "]") + ";"), inKernel("x=" + nested(12, "a[", "1", "]") + ";")},
		{inKernel("x=" + nested(11, "f(1,", "1", ")") + ";"), inKernel("x=" + nested(12, "f(1,", "1", ")") + ";")},
		{inKernel("x=" + nested(12, "f(", "", ")") + ";"), inKernel("x=" + nested(13, "f(", "", ")") + ";")},
		{inKernel("x=" + nested(500, "(", "1", ")") + ";"), inKernel("x=" + nested(500, "(", nested(12, "-", "1", ""), ")") + ";")},
		{inKernel("a[1]=" + nested(11, "-", "1", "") + ";"), inKernel("a[1]=" + nested(12, "-", "1", "") + ";")},
		{inKernel("return;" + nested(12, "if 1{", "", "}")), inKernel("return;" + nested(12, "if 1{", "break;", "}"))},
		{inKernel(nested(11, "if 1{}else{", "break;", "}")), inKernel(nested(12, "if 1{}else{", "break;", "}"))},
		{inKernel(nested(11, "while 1{", "x="+nested(11, "-", "1", "")+";", "}")), inKernel(nested(13, "while 1{", "", "}"))},
		{"func f(){" + nested(12, "if 1{", "", "}") + "}", "func f(){" + nested(13, "if 1{", "", "}") + "}"},
		{ofBytes(4000), strings.ReplaceAll(ofBytes(4001), " ;", ";")},
		{ofBytes(3999), strings.ReplaceAll(ofBytes(4007), " ;", ";")},
	} {
		p, at, e := syntax.Parse(x.fits)
		if e != api.OK || at != 0 || !syntax.Valid(p) {
			t.Errorf("%q: %d, %d", x.fits, at, e)
		}
		if p, at, e := syntax.Parse(x.exceeds); !same(p, api.Program{}) || at != 0 || e != api.ErrSize {
			t.Errorf("%q: %v, %d, %d, want an ErrSize", x.exceeds, p, at, e)
		}
		for _, more := range []string{"$", ")"} { // an ErrParse comes before an ErrSize, wherever it is
			if _, at, e := syntax.Parse(x.exceeds + more); at != len(x.exceeds) || e != api.ErrParse {
				t.Errorf("%q and %s: %d, %d, want an ErrParse", x.exceeds, more, at, e)
			}
		}
	}
	if p, at, e := syntax.Parse(ofBytes(4001)); !same(p, api.Program{}) || at != 0 || e != api.ErrSize {
		t.Errorf("4001 bytes: %v, %d, %d", p, at, e)
	}
}

// TestExprLimits checks expressions at each limit, and beyond it.
func TestExprLimits(t *testing.T) { // P3.5
	for _, x := range []struct{ fits, exceeds string }{
		{"f(1,2,3,4,5,6)", "f(1,2,3,4,5,6,7)"}, {"f(g(1,2,3,4,5,6))", "f(g(1,2,3,4,5,6,7))"}, {"-f()", "1+f(1,2,3,4,5,6,7)"},
		{ofParts(400), ofParts(401)}, {ofParts(399), ofParts(1000)}, {"-" + ofParts(399), "-" + ofParts(400)},
		{nested(11, "-", "1", ""), nested(12, "-", "1", "")}, {nested(11, "a[", "1", "]"), nested(12, "a[", "1", "]")}, {nested(12, "f(", "", ")"), nested(13, "f(", "", ")")},
		{"1" + strings.Repeat("+1", 11), "1" + strings.Repeat("+1", 12)}, {nested(11, "1+(", "1", ")"), nested(12, "1+(", "1", ")")}, {nested(11, "min(1,", "1", ")"), nested(12, "max(1,", "1", ")")},
		{nested(1999, "(", "1", ")"), nested(1900, "(", nested(12, "-", "1", ""), ")")}, {"1", nested(3998, "-", "1", "")}, {"1", strings.Repeat("1+", 1998) + "1"},
	} {
		e, at, err := syntax.Expr(x.fits)
		if at != 0 || err != api.OK || !wantValidExpr(e) {
			t.Errorf("%q: %v, %d, %d", x.fits, e, at, err)
		}
		if e, at, err := syntax.Expr(x.exceeds); !sameExpr(e, api.Expr{}) || at != 0 || err != api.ErrSize {
			t.Errorf("%q: %v, %d, %d, want an ErrSize", x.exceeds, e, at, err)
		}
		if e, at, err := syntax.Expr(x.exceeds + ";"); !sameExpr(e, api.Expr{}) || at != len(x.exceeds) || err != api.ErrParse {
			t.Errorf("%q and ;: %v, %d, %d, want an ErrParse", x.exceeds, e, at, err)
		}
	}
	if e, at, err := syntax.Expr(strings.Repeat(" ", 4000) + "1"); !sameExpr(e, api.Expr{}) || at != 0 || err != api.ErrSize {
		t.Errorf("4001 bytes: %v, %d, %d", e, at, err)
	}
}

// TestLongExpr writes an expression whose text is longer than that of a program may be.
func TestLongExpr(t *testing.T) {
	name := "abcdefghijklmnop"
	x, at, e := syntax.Expr(strings.ReplaceAll(ofParts(400), "1", "a"))
	rename(&x, name)
	text, f := syntax.ExprText(x)
	if want := wantExprText(x); text != want || len(text) <= api.MaxText || at != 0 || e != api.OK || f != api.OK {
		t.Errorf("%q, %d, %d, %d, want %q", text, at, e, f, want)
	}
}

// rename gives a name to all names of an expression.
func rename(e *api.Expr, name string) {
	e.Name = name
	for i := range e.Kids {
		rename(&e.Kids[i], name)
	}
}
