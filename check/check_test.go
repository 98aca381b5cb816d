package check_test

import (
	"reflect"
	"testing"

	"drawloom/api"
	"drawloom/check"
	"drawloom/syntax"
)

// program returns the program of a source.
func program(t *testing.T, s string) api.Program {
	t.Helper()
	p, at, e := syntax.Parse(s)
	if e != api.OK {
		t.Fatalf("%q: %d, %d", s, at, e)
	}
	return p
}

// violation is what Check returns.
type violation struct {
	name string
	e    api.Errno
}

// checkAll compares what Check returns for sources with what the chapter requires.
func checkAll(t *testing.T, wants map[string]violation) {
	t.Helper()
	for s, want := range wants {
		p := program(t, s)
		if name, e := check.Check(p); name != want.name || e != want.e {
			t.Errorf("%q: %q, %d, want %v", s, name, e, want)
		}
		if name, e := wantCheck(p); name != want.name || e != want.e {
			t.Errorf("%q: the reference says %q, %d, want %v", s, name, e, want)
		}
	}
}

var sound = violation{"", api.OK}

func TestExamples(t *testing.T) {
	checkAll(t, map[string]violation{
		"": sound, "func f() { }": sound, "kernel k() { }": sound,
		"kernel k(int n) { n = n + 1; let m = n; }":      sound,
		"kernel k() { if 1 { let x = 1; } x = 2; }":      {"k", api.ErrName},
		"func f(a) { return f(a); }":                     {"f", api.ErrName},
		"kernel k() { break; }":                          {"k", api.ErrPlace},
		"kernel k(buffer a) { a[tid] = -bid * a[dim]; }": sound,
	})
}

// TestTitles checks the names of functions and kernels.
func TestTitles(t *testing.T) {
	checkAll(t, map[string]violation{
		"func f() { } func f() { }":                                  {"f", api.ErrTwice},
		"kernel k() { } kernel k() { }":                              {"k", api.ErrTwice},
		"func f() { } kernel f() { }":                                {"f", api.ErrTwice},
		"kernel f() { } func f() { }":                                {"f", api.ErrTwice},
		"func f() { } func g() { } func f() { }":                     {"f", api.ErrTwice},
		"kernel k() { } kernel l() { } kernel m() { } kernel l() {}": {"l", api.ErrTwice},
		"func f() { } func F() { } kernel k() { } kernel K() { }":    sound,
		// before anything in it
		"func f() { } func f(a, a) { break; }":                  {"f", api.ErrTwice},
		"func f() { } func f() { break; }":                      {"f", api.ErrTwice},
		"func f() { } kernel f() { break; }":                    {"f", api.ErrTwice},
		"kernel k() { } kernel k(buffer a) { x = a; }":          {"k", api.ErrTwice},
		"func f() { break; } func f() { }":                      {"f", api.ErrPlace},
		"func f() { x = 1; } func f() { }":                      {"f", api.ErrName},
		"func f() { } func g() { return; } func f() { }":        {"g", api.ErrPlace},
		"func f() { } kernel k() { x = 1; } kernel f() { }":     {"k", api.ErrName},
		"kernel k() { break; } func f() { return; }":            {"f", api.ErrPlace},
		"kernel k() { break; } kernel l() { x = 1; }":           {"k", api.ErrPlace},
		"kernel k() { } kernel l() { x = 1; }":                  {"l", api.ErrName},
		"func f() { x = 1; } func g() { return; }":              {"f", api.ErrName},
		"func f() { return 1; } func g() { return f() + h(); }": {"g", api.ErrName},
		// they share no names with variables, parameters and arrays
		"func f(f) { let g = f; return g; } func g() { let f = 1; return f; }":                     sound,
		"func f(f) { return f; } func g(f) { return f(f); }":                                       sound,
		"kernel k(buffer k) { k[0] = 1; }":                                                         sound,
		"kernel k(int l) { let k = l; } kernel l() { shared k[1]; k[0] = 1; }":                     sound,
		"func f(a) { return a; } kernel k(buffer f) { f[f(1)] = f(f[0]); }":                        sound,
		"func f(a) { return a; } kernel k() { let f = f(1); let k = f(f); collect l = add f(k); }": sound,
		"func f() { return f; }":                    {"f", api.ErrName},
		"func f() { } kernel k() { let x = f; }":    {"k", api.ErrName},
		"func f() { } kernel k() { f = 1; }":        {"k", api.ErrName},
		"func f() { } kernel k() { let x = f[0]; }": {"k", api.ErrName},
		"kernel k() { k[0] = 1; }":                  {"k", api.ErrName},
	})
}

// TestDeclarations checks the names of parameters, arrays and variables.
func TestDeclarations(t *testing.T) {
	checkAll(t, map[string]violation{
		"func f(a, a) { }":                                                     {"f", api.ErrTwice},
		"func f(a, b, c, d, e, a) { }":                                         {"f", api.ErrTwice},
		"func f(a, b) { return x; } func g(b, c, b) { }":                       {"f", api.ErrName},
		"func f(a, b) { } func g(b, a) { }":                                    sound,
		"kernel k(int a, int a) { }":                                           {"k", api.ErrTwice},
		"kernel k(int a, buffer a) { }":                                        {"k", api.ErrTwice},
		"kernel k(buffer a, int a) { }":                                        {"k", api.ErrTwice},
		"kernel k(buffer a, int b, buffer a) { }":                              {"k", api.ErrTwice},
		"kernel k(buffer a) { shared a[1]; }":                                  {"k", api.ErrTwice},
		"kernel k(int a) { shared b[1]; shared a[1]; }":                        {"k", api.ErrTwice},
		"kernel k() { shared a[1]; shared a[2]; }":                             {"k", api.ErrTwice},
		"kernel k(int a, buffer b) { shared c[1]; shared d[1]; }":              sound,
		"kernel k(int a) { shared b[1]; } kernel l(buffer b) { shared a[1]; }": sound,
		"kernel k(int a, int a) { break; }":                                    {"k", api.ErrTwice},
		"kernel k() { shared a[1]; shared a[1]; break; }":                      {"k", api.ErrTwice},
		"func f(a, a) { return; }":                                             {"f", api.ErrTwice},

		"func f(a) { let a = 1; }":                                          {"f", api.ErrTwice},
		"func f(a) { let b = a; let b = a; }":                               {"f", api.ErrTwice},
		"kernel k(int a) { let a = 1; }":                                    {"k", api.ErrTwice},
		"kernel k(buffer a) { let a = 1; }":                                 {"k", api.ErrTwice},
		"kernel k() { shared a[1]; let a = 1; }":                            {"k", api.ErrTwice},
		"kernel k() { let a = 1; let a = 1; }":                              {"k", api.ErrTwice},
		"kernel k(int a) { collect a = add 1; }":                            {"k", api.ErrTwice},
		"kernel k(buffer a) { collect a = add 1; }":                         {"k", api.ErrTwice},
		"kernel k() { shared a[1]; collect a = add 1; }":                    {"k", api.ErrTwice},
		"kernel k() { let a = 1; collect a = add 1; }":                      {"k", api.ErrTwice},
		"kernel k() { collect a = add 1; collect a = add 1; }":              {"k", api.ErrTwice},
		"kernel k() { collect a = add 1; let a = 1; }":                      {"k", api.ErrTwice},
		"kernel k() { let a = 1; if 1 { let a = 2; } }":                     {"k", api.ErrTwice},
		"kernel k() { let a = 1; if 1 { } else { let a = 2; } }":            {"k", api.ErrTwice},
		"kernel k() { let a = 1; while 1 { if 1 { collect a = max 2; } } }": {"k", api.ErrTwice},
		"kernel k(int a) { while 1 { while 1 { let a = 1; } } }":            {"k", api.ErrTwice},
		"kernel k() { if 1 { let a = 1; } let a = 1; }":                     sound,
		"kernel k() { if 1 { let a = 1; } else { let a = 1; } let a = 1; }": sound,
		"kernel k() { while 1 { let a = 1; } collect a = add 1; }":          sound,
		"kernel k() { while 1 { let a = 1; } while 1 { let a = 1; } }":      sound,
		"kernel k() { if 1 { if 1 { let a = 1; } let a = 1; } let a = 1; }": sound,
		"kernel k() { let a = 1; } kernel l() { let a = 1; }":               sound,
		"func f() { let a = 1; } func g(a) { } kernel k(buffer a) { }":      sound,

		// the expression of a declaration comes first
		"kernel k() { let x = x; }":                             {"k", api.ErrName},
		"kernel k() { collect x = add x; }":                     {"k", api.ErrName},
		"kernel k() { let x = 1; let x = x; }":                  {"k", api.ErrTwice},
		"kernel k() { let x = 1; let x = y; }":                  {"k", api.ErrName},
		"kernel k(buffer a) { let a = a; }":                     {"k", api.ErrName},
		"kernel k(buffer a) { let a = a[0]; }":                  {"k", api.ErrTwice},
		"kernel k(buffer a) { collect a = add a; }":             {"k", api.ErrName},
		"func f(a) { let a = tid; }":                            {"f", api.ErrPlace},
		"func f() { } kernel k(int a) { let a = f(1); }":        {"k", api.ErrArg},
		"func f() { } kernel k(int a) { collect a = or f(1); }": {"k", api.ErrArg},
	})
}

// TestVisible checks what names may be used for, and where.
func TestVisible(t *testing.T) {
	checkAll(t, map[string]violation{
		"func f(a, b) { a = b; let c = a; c = c + b; return c; }": sound,
		"func f() { return a; }":                                  {"f", api.ErrName},
		"func f(a) { return a; } func g() { return a; }":          {"g", api.ErrName},
		"func f() { let a = 1; } func g() { a = 1; }":             {"g", api.ErrName},
		"func f(a) { } kernel k() { let b = a; }":                 {"k", api.ErrName},
		"kernel k(int a) { } kernel l() { let b = a; }":           {"l", api.ErrName},
		"kernel k(buffer a) { } kernel l() { a[0] = 1; }":         {"l", api.ErrName},
		"kernel k() { shared a[1]; } kernel l() { a[0] = 1; }":    {"l", api.ErrName},

		"kernel k() { let a = b; let b = 1; }":                                                               {"k", api.ErrName},
		"kernel k() { a = 1; let a = 1; }":                                                                   {"k", api.ErrName},
		"kernel k() { let a = 1; let b = a; b = a + b; a = b; }":                                             sound,
		"kernel k() { collect a = add 1; a = a; }":                                                           sound,
		"kernel k() { if 1 { let a = 1; } let b = a; }":                                                      {"k", api.ErrName},
		"kernel k() { if 1 { let a = 1; } else { a = 1; } }":                                                 {"k", api.ErrName},
		"kernel k() { if 1 { } else { let a = 1; } a = 1; }":                                                 {"k", api.ErrName},
		"kernel k() { if 1 { collect a = add 1; } a = 1; }":                                                  {"k", api.ErrName},
		"kernel k() { while 1 { let a = 1; } a = 1; }":                                                       {"k", api.ErrName},
		"kernel k() { while a { let a = 1; } }":                                                              {"k", api.ErrName},
		"kernel k() { while 1 { a = 1; let a = 1; } }":                                                       {"k", api.ErrName},
		"kernel k() { let a = 1; while a { a = a - 1; if a { let b = a; b = a; } else { a = 2; } } a = 3; }": sound,
		"kernel k() { if 1 { let a = 1; if a { a = 2; } a = 3; } }":                                          sound,
		"kernel k() { if 1 { if 1 { let a = 1; } a = 3; } }":                                                 {"k", api.ErrName},

		// what a name stands for
		"kernel k(int n, buffer a) { shared s[1]; let v = n + v0(); }": {"k", api.ErrName},
		"kernel k(int n, buffer a) { shared s[1]; let v = n; collect w = add v; n = v + w; v = n; w = n; a[0] = s[0]; s[a[0]] = a[s[0]]; atomic add a[0], 1; atomic min s[n], v; }": sound,
		"kernel k(buffer a) { let x = a; }":                       {"k", api.ErrName},
		"kernel k() { shared a[1]; let x = a; }":                  {"k", api.ErrName},
		"kernel k(buffer a) { a = 1; }":                           {"k", api.ErrName},
		"kernel k() { shared a[1]; a = 1; }":                      {"k", api.ErrName},
		"kernel k(int n) { n[0] = 1; }":                           {"k", api.ErrName},
		"kernel k(int n) { let x = n[0]; }":                       {"k", api.ErrName},
		"kernel k(int n) { atomic add n[0], 1; }":                 {"k", api.ErrName},
		"kernel k() { let n = 1; n[0] = 1; }":                     {"k", api.ErrName},
		"kernel k() { let n = 1; let m = n[0]; }":                 {"k", api.ErrName},
		"kernel k() { let n = 1; atomic add n[0], 1; }":           {"k", api.ErrName},
		"kernel k() { collect n = add 1; n[0] = 1; }":             {"k", api.ErrName},
		"kernel k() { x[0] = 1; }":                                {"k", api.ErrName},
		"kernel k() { atomic xor x[0], 1; }":                      {"k", api.ErrName},
		"kernel k() { let y = x[0]; }":                            {"k", api.ErrName},
		"kernel k() { if x { } }":                                 {"k", api.ErrName},
		"kernel k() { while x { } }":                              {"k", api.ErrName},
		"kernel k() { if 1 { x = 1; } }":                          {"k", api.ErrName},
		"kernel k() { if 1 { } else { x = 1; } }":                 {"k", api.ErrName},
		"kernel k(int A) { a = 1; }":                              {"k", api.ErrName},
		"kernel k(buffer a) { a[x] = 1; }":                        {"k", api.ErrName},
		"kernel k(buffer a) { a[0] = x; }":                        {"k", api.ErrName},
		"kernel k(buffer a) { atomic add a[x], 1; }":              {"k", api.ErrName},
		"kernel k(buffer a) { atomic add a[0], x; }":              {"k", api.ErrName},
		"kernel k(buffer a) { a[0] = a[x]; }":                     {"k", api.ErrName},
		"func f(a) { } kernel k() { let y = 1 + -f(min(2, x)); }": {"k", api.ErrName},
	})
}

// TestCalls checks which functions may be called, and with how many arguments.
func TestCalls(t *testing.T) {
	checkAll(t, map[string]violation{
		"func f() { } func g() { return f(); } func h() { return f() + g(); } kernel k() { let x = f() + g() + h(); }": sound,
		"func f() { return g(); } func g() { }":       {"f", api.ErrName},
		"func f() { return f(); }":                    {"f", api.ErrName},
		"func f(a) { return f(); }":                   {"f", api.ErrName},
		"func f() { } func g() { return f() + g(); }": {"g", api.ErrName},
		"kernel k() { let x = k(); }":                 {"k", api.ErrName},
		"kernel l() { } kernel k() { let x = l(); }":  {"k", api.ErrName},
		"kernel k() { let x = l(); } kernel l() { }":  {"k", api.ErrName},
		"func f() { return k(); } kernel k() { }":     {"f", api.ErrName},
		"kernel k() { let x = f(); } func f() { }":    sound,
		"func f(a) { let g = a; return g(); }":        {"f", api.ErrName},
		"kernel k(int f) { let x = f(); }":            {"k", api.ErrName},
		"kernel k(buffer f) { let x = f(0); }":        {"k", api.ErrName},

		"func f() { } kernel k() { let x = f(1); }":                                          {"k", api.ErrArg},
		"func f(a) { } kernel k() { let x = f(); }":                                          {"k", api.ErrArg},
		"func f(a) { } kernel k() { let x = f(1, 2); }":                                      {"k", api.ErrArg},
		"func f(a) { } func g(a, b) { return f(a, b); }":                                     {"g", api.ErrArg},
		"func f(a, b, c, d, e, g) { return a; } kernel k() { let x = f(1, 2, 3, 4, 5); }":    {"k", api.ErrArg},
		"func f(a, b, c, d, e, g) { return a; } kernel k() { let x = f(1, 2, 3, 4, 5, 6); }": sound,
		"func f() { } func g(a) { } kernel k() { let x = g(f()); }":                          sound,
		"func f() { } func g(a) { } kernel k() { let x = f(g(1)); }":                         {"k", api.ErrArg},
		// the name, the number of arguments, then the arguments
		"kernel k() { let x = f(tid, y); }":                  {"k", api.ErrName},
		"func f(a) { return g(tid); }":                       {"f", api.ErrName},
		"func f(a) { } func g() { return f(tid, 1); }":       {"g", api.ErrArg},
		"func f(a) { } func g() { return f(tid); }":          {"g", api.ErrPlace},
		"func f(a) { } kernel k() { let x = f(y, z); }":      {"k", api.ErrArg},
		"func f(a) { } kernel k() { let x = f(f()); }":       {"k", api.ErrArg},
		"func f(a) { } kernel k() { let x = f(f(y)); }":      {"k", api.ErrName},
		"func f(a) { } kernel k() { let x = f(y) + f(); }":   {"k", api.ErrName},
		"func f(a) { } kernel k() { let x = f() + f(y); }":   {"k", api.ErrArg},
		"func f(a, b) { } func g() { return f(f(1), tid); }": {"g", api.ErrArg},
		"func f(a, b) { } func g() { return f(tid, f(1)); }": {"g", api.ErrPlace},
	})
}

// TestPlaces checks what may stand where.
func TestPlaces(t *testing.T) {
	checkAll(t, map[string]violation{
		"func f() { break; }":                                                     {"f", api.ErrPlace},
		"func f() { continue; }":                                                  {"f", api.ErrPlace},
		"kernel k() { continue; }":                                                {"k", api.ErrPlace},
		"kernel k() { if 1 { break; } }":                                          {"k", api.ErrPlace},
		"kernel k() { if 1 { } else { continue; } }":                              {"k", api.ErrPlace},
		"kernel k() { while 1 { } break; }":                                       {"k", api.ErrPlace},
		"kernel k() { while 1 { while 1 { } } continue; }":                        {"k", api.ErrPlace},
		"func f() { while 1 { } } func g() { break; }":                            {"g", api.ErrPlace},
		"func f() { while 1 { } } kernel k() { continue; }":                       {"k", api.ErrPlace},
		"kernel k() { while 1 { break; continue; } }":                             sound,
		"func f() { while 1 { if 1 { break; } else { continue; } } }":             sound,
		"kernel k() { while 1 { while 1 { break; } continue; if 1 { break; } } }": sound,

		"kernel k() { return; return; }":          sound,
		"kernel k() { return 1; }":                {"k", api.ErrPlace},
		"kernel k() { return x; }":                {"k", api.ErrPlace},
		"kernel k() { while 1 { return 1; } }":    {"k", api.ErrPlace},
		"func f() { return; }":                    {"f", api.ErrPlace},
		"func f() { if 1 { return; } return 1; }": {"f", api.ErrPlace},
		"func f() { return 1; return 2; }":        sound,
		"func f() { return x; }":                  {"f", api.ErrName},
		"func f() { } func g() { return f(1); }":  {"g", api.ErrArg},

		"func f() { barrier; }":                             {"f", api.ErrPlace},
		"kernel k() { barrier; if 1 { barrier; } }":         sound,
		"func f() { a[0] = 1; }":                            {"f", api.ErrPlace},
		"func f(a) { a[g()] = x; }":                         {"f", api.ErrPlace},
		"func f() { atomic add a[0], 1; }":                  {"f", api.ErrPlace},
		"func f(a) { atomic add a[g()], x; }":               {"f", api.ErrPlace},
		"func f() { collect a = add 1; }":                   {"f", api.ErrPlace},
		"func f(a) { collect a = add x; }":                  {"f", api.ErrPlace},
		"func f() { return a[0]; }":                         {"f", api.ErrPlace},
		"func f(a) { return a[x]; }":                        {"f", api.ErrPlace},
		"func f(a) { return a[a]; }":                        {"f", api.ErrPlace},
		"func f() { return tid; }":                          {"f", api.ErrPlace},
		"func f() { return bid; }":                          {"f", api.ErrPlace},
		"func f() { return dim; }":                          {"f", api.ErrPlace},
		"func f() { return grid; }":                         {"f", api.ErrPlace},
		"func f() { if tid { } }":                           {"f", api.ErrPlace},
		"func f() { while 1 + -tid { } }":                   {"f", api.ErrPlace},
		"func f() { let a = 1; if a { a = min(a, tid); } }": {"f", api.ErrPlace},
		"kernel k(buffer a) { let x = tid + bid * dim + a[grid]; collect y = max tid; atomic or a[tid], bid; }": sound,
	})
}

// TestOrder checks which of several violations is the first one.
func TestOrder(t *testing.T) {
	checkAll(t, map[string]violation{
		"kernel k() { break; x = 1; }":                      {"k", api.ErrPlace},
		"kernel k() { x = 1; break; }":                      {"k", api.ErrName},
		"kernel k() { if x { break; } }":                    {"k", api.ErrName},
		"kernel k() { if 1 { break; } else { x = 1; } }":    {"k", api.ErrPlace},
		"kernel k() { if 1 { x = 1; } else { break; } }":    {"k", api.ErrName},
		"kernel k() { if 1 { x = 1; } break; }":             {"k", api.ErrName},
		"kernel k() { if 1 { } else { x = 1; } break; }":    {"k", api.ErrName},
		"kernel k() { while x { return 1; } }":              {"k", api.ErrName},
		"kernel k() { while 1 { return 1; x = 1; } }":       {"k", api.ErrPlace},
		"kernel k(int a) { while 1 { x = 1; } let a = 1; }": {"k", api.ErrName},
		"func f() { return x + tid; }":                      {"f", api.ErrName},
		"func f() { return tid + x; }":                      {"f", api.ErrPlace},
		"func f() { return min(-tid, x); }":                 {"f", api.ErrPlace},
		"func f() { return x < tid; }":                      {"f", api.ErrName},
		"func f() { return x > tid; }":                      {"f", api.ErrPlace}, // it is the tree of tid < x
		// the name of what is changed comes before the expressions, and these in order
		"func f() { } kernel k() { x[f(1)] = 1; }":                   {"k", api.ErrName},
		"func f() { } kernel k() { x[0] = f(1); }":                   {"k", api.ErrName},
		"func f() { } kernel k() { atomic add x[f(1)], 1; }":         {"k", api.ErrName},
		"func f() { } kernel k() { atomic add x[0], f(1); }":         {"k", api.ErrName},
		"func f() { } kernel k() { x = f(1); }":                      {"k", api.ErrName},
		"func f() { x = tid; }":                                      {"f", api.ErrName},
		"func f() { } kernel k() { let y = x[f(1)]; }":               {"k", api.ErrName},
		"func f() { } kernel k(int n) { let y = n[f(1)]; }":          {"k", api.ErrName},
		"func f() { } kernel k(buffer a) { a[f(1)] = x; }":           {"k", api.ErrArg},
		"func f() { } kernel k(buffer a) { a[x] = f(1); }":           {"k", api.ErrName},
		"func f() { } kernel k(buffer a) { atomic add a[f(1)], x; }": {"k", api.ErrArg},
		"func f() { } kernel k(buffer a) { atomic add a[x], f(1); }": {"k", api.ErrName},
		"func f() { } kernel k(buffer a) { let y = a[f(1)] + x; }":   {"k", api.ErrArg},
		"func f() { } kernel k(buffer a) { let y = a[x] + f(1); }":   {"k", api.ErrName},
	})
}

// valid calls use with programs that are made: sound ones, and ones with few and with many violations.
func valid(t *testing.T, use func(p api.Program)) {
	t.Helper()
	programs := 0
	for _, slips := range []int{0, 200, 60, 20, 5, 2} {
		for seed := range 700 {
			if p := newMaker(int64(seed), slips).program(); syntax.Valid(p) {
				programs++
				use(p)
			}
		}
	}
	if programs < 3500 {
		t.Errorf("only %d programs", programs)
	}
}

// TestReference compares Check with the second definition of the rules.
func TestReference(t *testing.T) {
	found := map[api.Errno]int{}
	valid(t, func(p api.Program) {
		want, wantErr := wantCheck(p)
		name, e := check.Check(p)
		if name != want || e != wantErr {
			text, _ := syntax.Text(p)
			t.Fatalf("%s: %q, %d, want %q, %d", text, name, e, want, wantErr)
		}
		if again, f := check.Check(p); again != name || f != e {
			t.Fatalf("%v: %q, %d, and then %q, %d", p, name, e, again, f)
		}
		found[e]++
	})
	for _, e := range []api.Errno{api.OK, api.ErrName, api.ErrTwice, api.ErrArg, api.ErrPlace} {
		if found[e] < 100 {
			t.Errorf("error %d: only %d programs", e, found[e])
		}
	}
}

// endless returns a list of statements that contains itself.
func endless() []api.Stmt {
	l := []api.Stmt{{Kind: api.SIf, Exprs: []api.Expr{{Kind: api.EInt}}}}
	l[0].Body = l
	return l
}

// endlessExprs returns a list of expressions that contains itself.
func endlessExprs() []api.Expr {
	l := []api.Expr{{Kind: api.EUnary}}
	l[0].Kids = l
	return l
}

// notValid returns programs that are not valid.
func notValid() []api.Program {
	one := []api.Expr{{Kind: api.EInt, Int: 1}}
	bodies := [][]api.Stmt{
		endless(),
		{{Kind: api.SLet, Name: "x", Exprs: endlessExprs()}},
		{{Kind: api.SKinds}},
		{{Kind: -1}},
		{{Kind: api.SLet, Name: "x"}},
		{{Kind: api.SLet, Name: "", Exprs: one}},
		{{Kind: api.SLet, Name: "let", Exprs: one}},
		{{Kind: api.SPut, Name: "a", Exprs: one}},
		{{Kind: api.SBreak, Body: []api.Stmt{{Kind: api.SBarrier}}}},
		{{Kind: api.SIf}},
		{{Kind: api.SReturn, Exprs: []api.Expr{{Kind: api.EInt}, {Kind: api.EInt}}}},
		{{Kind: api.SCollect, Op: api.Sub, Name: "x", Exprs: one}},
		{{Kind: api.SLet, Name: "x", Exprs: []api.Expr{{Kind: api.EKinds}}}},
		{{Kind: api.SLet, Name: "x", Exprs: []api.Expr{{Kind: api.EBinary, Kids: one}}}},
		{{Kind: api.SLet, Name: "x", Exprs: []api.Expr{{Kind: api.ECall, Name: "f", Kids: make([]api.Expr, 7)}}}},
		make([]api.Stmt, api.MaxNodes+1),
	}
	l := []api.Program{
		{Funcs: []api.Func{{}}},
		{Kernels: []api.Kernel{{}}},
		{Funcs: []api.Func{{Name: "f", Params: make([]string, 1)}}},
		{Kernels: []api.Kernel{{Name: "k", Params: make([]api.Param, 1)}}},
		{Kernels: []api.Kernel{{Name: "k", Shared: []api.Array{{Name: "a"}}}}},
		{Kernels: []api.Kernel{{Name: "k", Shared: []api.Array{{Name: "a", Size: 65}}}}},
		{Kernels: make([]api.Kernel, 2), Funcs: []api.Func{{Name: "f"}, {Name: "f"}}},
	}
	for _, body := range bodies {
		l = append(l, api.Program{Funcs: []api.Func{{Name: "f", Body: body}}}, api.Program{Kernels: []api.Kernel{{Name: "k", Body: body}}})
	}
	return l
}

// TestForm checks that no function accepts a program that is not valid.
func TestForm(t *testing.T) {
	for i, p := range notValid() {
		if name, e := check.Check(p); name != "" || e != api.ErrForm {
			t.Errorf("program %d: Check: %q, %d", i, name, e)
		}
		if k, e := check.Kernel(p, "k"); !reflect.DeepEqual(k, api.Kernel{}) || e != api.ErrForm {
			t.Errorf("program %d: Kernel: %d", i, e)
		}
		if f, e := check.Func(p, "f"); !reflect.DeepEqual(f, api.Func{}) || e != api.ErrForm {
			t.Errorf("program %d: Func: %d", i, e)
		}
		if e := check.Fits(p, api.Launch{Kernel: "k", Grid: 1, Block: 1}, nil); e != api.ErrForm {
			t.Errorf("program %d: Fits: %d", i, e)
		}
	}
}
