package syntax_test

import (
	"strings"
	"testing"

	"drawloom/api"
	"drawloom/lex"
	"drawloom/syntax"
)

// TestWhere compares the index of each ErrParse with the grammar: it goes on from the beginning of a tree's text, and tries every token at each step.
func TestWhere(t *testing.T) { // P3.4
	rules := readGrammar()
	for start, parse := range parsers() {
		used := map[string]bool{}
		for seed := range 150 {
			m := newMaker(int64(seed))
			walk := &walk{maker: m, chart: newChart(rules, start), parse: parse, used: used}
			words := strings.Fields(textOfTree(m, start))
			for _, word := range words[:m.Intn(min(len(words), 60)+1)] {
				walk.take(word)
			}
			for range 10 {
				walk.step(t)
			}
		}
		if start == "program" && len(used) != len(everyWord) {
			t.Errorf("only %d tokens of %d are used: %v", len(used), len(everyWord), used)
		}
	}
}

// textOfTree makes the text of a tree: of an expression, of a program, or of a program of the sources.
func textOfTree(m maker, start string) string {
	if start == "expr" {
		return wantExprText(m.expr(5))
	}
	if m.Intn(2) == 0 {
		return wantText(m.program())
	}
	l, _, _ := lex.Tokens(sources[m.Intn(len(sources))])
	return lex.Join(l)
}

// everyWord is a token of each kind.
var everyWord = append(strings.Fields("a 7 ( ) { } [ ] , ; = + - * / % & | ^ ~ ! < > << >> >>> <= >= == != <: && ||"), wordsOfAll...)

// walk is a beginning of a text, with what the grammar knows of it.
type walk struct {
	maker
	*chart
	parse func(s string) (int, api.Errno)
	used  map[string]bool
	text  string
}

func (w *walk) take(word string) {
	w.extend(symbolOf(word))
	w.text += word + w.gap()
}

// step checks the error of each token that cannot follow, and goes on with one that can.
func (w *walk) step(t *testing.T) {
	t.Helper()
	checkEnd(t, w.parse, w.text, w.complete())
	expected := w.expected()
	var next []string
	for _, word := range everyWord {
		if expected[symbolOf(word)] {
			w.used[word] = true
			next = append(next, word)
			continue
		}
		s := w.text + word + []string{"", " b", " )", "#"}[w.Intn(4)]
		if at, e := w.parse(s); at != len(w.text) || e != api.ErrParse {
			t.Fatalf("%q: %d, %d, want an ErrParse at %d", s, at, e, len(w.text))
		}
	}
	if len(next) > 0 {
		w.take(next[w.Intn(len(next))])
	}
}

// parsers are Parse and Expr without the trees, by the symbol of the grammar that they parse.
func parsers() map[string]func(s string) (int, api.Errno) {
	return map[string]func(s string) (int, api.Errno){
		"program": func(s string) (int, api.Errno) {
			p, at, e := syntax.Parse(s)
			if e == api.OK && !syntax.Valid(p) || e != api.OK && !same(p, api.Program{}) {
				return -1, -1
			}
			return at, e
		},
		"expr": func(s string) (int, api.Errno) {
			x, at, e := syntax.Expr(s)
			if e == api.OK && !wantValidExpr(x) || e != api.OK && !sameExpr(x, api.Expr{}) {
				return -1, -1
			}
			return at, e
		},
	}
}

// checkEnd checks a beginning of a program, or of an expression, alone: more tokens are needed unless it is complete.
func checkEnd(t *testing.T, parse func(s string) (int, api.Errno), s string, complete bool) {
	t.Helper()
	at, e := parse(s)
	if complete && (at != 0 || e != api.OK && e != api.ErrSize) || !complete && (at != len(s) || e != api.ErrParse) {
		t.Fatalf("%q: %d, %d; complete: %v", s, at, e, complete)
	}
}

// TestDamaged leaves out, doubles and changes tokens of programs, and compares the error with the grammar.
func TestDamaged(t *testing.T) { // P3.4
	rules := readGrammar()
	m := newMaker(34)
	texts := append(strings.Fields("a 7 ( ) { } [ ] , ; = + - * ~ < >> <= == &&"), wordsOfAll...)
	for _, source := range sources {
		l, _, _ := lex.Tokens(source)
		for range min(6*len(l), 90) {
			damaged := append([]api.Token(nil), l...)
			i := m.Intn(len(l))
			switch m.Intn(4) {
			case 0:
				damaged = append(damaged[:i], damaged[i+1:]...)
			case 1:
				damaged = append(damaged[:i+1], l[i:]...)
			case 2:
				damaged = damaged[:i]
			default:
				damaged[i].Text = texts[m.Intn(len(texts))]
			}
			checkDamaged(t, rules, damaged)
		}
	}
}

func checkDamaged(t *testing.T, rules grammar, l []api.Token) {
	t.Helper()
	var texts []string
	for _, token := range l {
		texts = append(texts, token.Text)
	}
	s := lex.Join(l) + "\n"
	want := misfitOf(rules, "program", texts)
	_, at, e := syntax.Parse(s)
	switch {
	case want < 0:
		if at != 0 || e == api.ErrParse {
			t.Errorf("%q: %d, %d", s, at, e)
		}
	case want == len(l):
		if at != len(s) || e != api.ErrParse {
			t.Errorf("%q: %d, %d, want the end", s, at, e)
		}
	default:
		if index := len(lex.Join(l[:want])) + min(want, 1); at != index || e != api.ErrParse {
			t.Errorf("%q: %d, %d, want %d", s, at, e, index)
		}
	}
}

// TestErrors checks errors and their indexes, of programs.
func TestErrors(t *testing.T) {
	for s, want := range map[string]int{
		"func f(": 7, "a = 1;": 0, "kernel k() { let x = 1 }": 23, "func": 4, "func ": 5, "func # f": 8, "kernel k(": 9, "kernel k()": 10, "kernel k() {": 12, "}": 0, "1": 0, "let x = 1;": 0,
		"func f() {} }": 12, "func f() {} x": 12, "func 1() {}": 5, "func let() {}": 5, "func f {}": 7, "func f(1) {}": 7, "func f(a,) {}": 9, "func f(,a) {}": 7, "func f(a b) {}": 9, "func f(int a) {}": 7, "func f(buffer a) {}": 7,
		"kernel k(a) {}": 9, "kernel k(int) {}": 12, "kernel k(int a,) {}": 15, "kernel k(buffer int a) {}": 16, "kernel k(int a int b) {}": 15, "kernel k() ;": 11, "kernel k() {} ;": 14,
		"kernel k() { break; shared s[1]; }": 20, "kernel k() { shared s; }": 21, "kernel k() { shared s[]; }": 22, "kernel k() { shared s[a]; }": 22, "kernel k() { shared s[-1]; }": 22, "kernel k() { shared s[1] }": 25, "kernel k() { shared s[1+1]; }": 23, "kernel k() { shared 1[1]; }": 20, "func f() { shared s[1]; }": 11,
		"kernel k() { ; }": 13, "kernel k() { {} }": 13, "kernel k() { 1; }": 13, "kernel k() { a; }": 14, "kernel k() { a(); }": 14, "kernel k() { a == 1; }": 15, "kernel k() { a[1]; }": 17, "kernel k() { a[] = 1; }": 15, "kernel k() { a[1][2] = 1; }": 17, "kernel k() { a[1, 2] = 1; }": 16,
		"kernel k() { tid = 1; }": 13, "kernel k() { min = 1; }": 13, "kernel k() { let a; }": 18, "kernel k() { let a[1] = 1; }": 18, "kernel k() { let 1 = 1; }": 17, "kernel k() { let min = 1; }": 17, "kernel k() { let a = ; }": 21, "kernel k() { let a == 1; }": 19,
		"kernel k() { if { } }": 16, "kernel k() { if 1 break; }": 18, "kernel k() { if 1 { } else break; }": 27, "kernel k() { if 1 { } else if 2 { } }": 27, "kernel k() { else { } }": 13, "kernel k() { if 1 { } ; }": 22, "kernel k() { if 1 { } else { } else { } }": 31, "kernel k() { while { } }": 19, "kernel k() { while 1 { } else { } }": 25, "kernel k() { while 1; }": 20,
		"kernel k() { break }": 19, "kernel k() { break 1; }": 19, "kernel k() { continue 1; }": 22, "kernel k() { barrier 1; }": 21, "kernel k() { barrier() ; }": 20, "kernel k() { return 1 2; }": 22, "kernel k() { return }": 20, "kernel k() { return return; }": 20,
		"kernel k() { atomic a[1], 2; }": 20, "kernel k() { atomic sub a[1], 2; }": 20, "kernel k() { atomic add 1, 2; }": 24, "kernel k() { atomic add a, 2; }": 25, "kernel k() { atomic add a[1] = 2; }": 29, "kernel k() { atomic add a[1]; }": 28, "kernel k() { atomic + a[1], 2; }": 20, "kernel k() { atomic add min[1], 2; }": 24,
		"kernel k() { collect x = tid; }": 25, "kernel k() { collect x = (1); }": 25, "kernel k() { collect = add 1; }": 21, "kernel k() { collect x add 1; }": 23, "kernel k() { collect x = add; }": 28, "kernel k() { collect x = min(1, 2); }": 30, "kernel k() { collect x = add add; }": 29, "kernel k() { collect x = x; }": 25, "kernel k() { collect x[1] = add 1; }": 22,
		"kernel k() { x = f()[0]; }": 20, "kernel k() { x = a[0][0]; }": 21, "kernel k() { x = add; }": 17, "kernel k() { x = f()(); }": 20, "kernel k() { x = int; }": 17, "kernel k() { x = y = z; }": 19,
		"kernel k(): ": 10, "$ func f(": 0, "func f( $": 8, "func f() {} 12a": 12, "a = abcdefghijklmnopq;": 4, "2147483649 + 1": 0,
	} {
		if p, at, e := syntax.Parse(s); !same(p, api.Program{}) || at != want || e != api.ErrParse {
			t.Errorf("%q: %v, %d, %d, want an ErrParse at %d", s, p, at, e, want)
		}
	}
}

// TestExprErrors checks errors and their indexes, of expressions.
func TestExprErrors(t *testing.T) {
	for s, want := range map[string]int{
		"": 0, "  ": 2, "# a": 3, "a b": 2, "1 2": 2, "a )": 2, "(": 1, "()": 1, "(a": 2, "(a ": 3, "(a]": 2, "a +": 3, "a + + b": 4, "a + * b": 4, "* a": 0, "- ": 2, "!": 1, "a !b": 2, "a ~ b": 2, "a[": 2, "a[]": 2, "a[1": 3, "a[1)": 3, "a[1] b": 5, "a[1][2]": 4, "1[2]": 1, "tid[1]": 3,
		"f(": 2, "f(,)": 2, "f(1,)": 4, "f(1 2)": 4, "f(1": 3, "f()()": 3, "f()[0]": 3, "(f)(1)": 3, "1(2)": 1, "tid()": 3, "min": 3, "min(": 4, "min()": 4, "min(1)": 5, "min(1,)": 6, "min(1,2,3)": 7, "max 1": 4, "max[1]": 3, "max(1 2)": 6, "max(1,2": 7, "add": 0, "or(1,2)": 0, "and": 0, "xor 1": 0, "let": 0, "a;": 1, "a,": 1, "a = b": 2, "{": 0, "kernel k(){}": 0,
		"a $": 2, "a b $": 4, "12a": 0, ") 12_": 2, "a === b": 4, "a &&& b": 4, "a & & b": 4, "a <=> b": 4,
	} {
		if x, at, e := syntax.Expr(s); !sameExpr(x, api.Expr{}) || at != want || e != api.ErrParse {
			t.Errorf("%q: %v, %d, %d, want an ErrParse at %d", s, x, at, e, want)
		}
	}
}
