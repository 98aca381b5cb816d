package check_test

import (
	"reflect"
	"slices"
	"strings"
	"testing"

	"drawloom/api"
	"drawloom/check"
	"drawloom/syntax"
)

// same reports whether two programs are the same; a nil slice and an empty one are.
func same(a, b api.Program) bool {
	keep := func(s string) string { return s }
	keepIn := func(unit int, s string) string { return s }
	return reflect.DeepEqual(renamed(a, keep, keepIn), renamed(b, keep, keepIn))
}

func ofKernel(k api.Kernel) api.Program { return api.Program{Kernels: []api.Kernel{k}} }

func ofFunc(f api.Func) api.Program { return api.Program{Funcs: []api.Func{f}} }

const several = `
func f(a, b) { let c = a; while c { c = c - b; if c < 3 { break; } else { continue; } } return max(a, f0) ; }
func g() { }
kernel k(buffer a, int n) { shared s[3]; shared t[64]; collect x = min n; atomic xor s[tid], -2147483648; a[x] = s[f(1, a[g()])]; if n { barrier; return; } }
kernel l() { }
`

func TestKernelAndFunc(t *testing.T) {
	p := program(t, strings.Replace(several, "f0", "b", 1))
	for _, want := range p.Kernels {
		if k, e := check.Kernel(p, want.Name); !same(ofKernel(k), ofKernel(want)) || e != api.OK {
			t.Errorf("%q: %v, %d, want %v", want.Name, k, e, want)
		}
		if f, e := check.Func(p, want.Name); !reflect.DeepEqual(f, api.Func{}) || e != api.ErrName {
			t.Errorf("%q as a function: %v, %d", want.Name, f, e)
		}
	}
	for _, want := range p.Funcs {
		if f, e := check.Func(p, want.Name); !same(ofFunc(f), ofFunc(want)) || e != api.OK {
			t.Errorf("%q: %v, %d, want %v", want.Name, f, e, want)
		}
		if k, e := check.Kernel(p, want.Name); !reflect.DeepEqual(k, api.Kernel{}) || e != api.ErrName {
			t.Errorf("%q as a kernel: %v, %d", want.Name, k, e)
		}
	}
	for _, name := range []string{"", "x", "K", "a", "kernel", "k ", "kk"} {
		if k, e := check.Kernel(p, name); !reflect.DeepEqual(k, api.Kernel{}) || e != api.ErrName {
			t.Errorf("%q: %v, %d", name, k, e)
		}
		if f, e := check.Func(p, name); !reflect.DeepEqual(f, api.Func{}) || e != api.ErrName {
			t.Errorf("%q: %v, %d", name, f, e)
		}
	}
}

// TestUnsound looks for functions and kernels in programs that are not sound.
func TestUnsound(t *testing.T) {
	for s, want := range map[string]api.Errno{
		several: api.ErrName,
		"func f() { } kernel k() { } kernel k() { }":               api.ErrTwice,
		"func f() { } func g() { barrier; } kernel k() { }":        api.ErrPlace,
		"func f() { } kernel k() { } kernel l() { let a = f(1); }": api.ErrArg,
		"func f() { } kernel k() { } kernel l() { return 1; }":     api.ErrPlace,
	} {
		p := program(t, s)
		for _, name := range []string{"f", "k", "x"} {
			if k, e := check.Kernel(p, name); !reflect.DeepEqual(k, api.Kernel{}) || e != want {
				t.Errorf("%q, %q: %v, %d, want %d", s, name, k, e, want)
			}
			if f, e := check.Func(p, name); !reflect.DeepEqual(f, api.Func{}) || e != want {
				t.Errorf("%q, %q: %v, %d, want %d", s, name, f, e, want)
			}
		}
	}
}

// stmtSlots appends the addresses of all statements and expressions of a list, up to its capacity.
func stmtSlots(l []api.Stmt, slots *[]any) {
	for i := range l[:cap(l)] {
		s := &l[:cap(l)][i]
		*slots = append(*slots, s)
		exprSlots(s.Exprs, slots)
		stmtSlots(s.Body, slots)
		stmtSlots(s.Else, slots)
	}
}

func exprSlots(l []api.Expr, slots *[]any) {
	for i := range l[:cap(l)] {
		x := &l[:cap(l)][i]
		*slots = append(*slots, x)
		exprSlots(x.Kids, slots)
	}
}

// slots returns the addresses of everything in the lists of a function and a kernel, up to their capacity.
func slots(f api.Func, k api.Kernel) []any {
	var all []any
	for i := range f.Params[:cap(f.Params)] {
		all = append(all, &f.Params[:cap(f.Params)][i])
	}
	for i := range k.Params[:cap(k.Params)] {
		all = append(all, &k.Params[:cap(k.Params)][i])
	}
	for i := range k.Shared[:cap(k.Shared)] {
		all = append(all, &k.Shared[:cap(k.Shared)][i])
	}
	stmtSlots(f.Body, &all)
	stmtSlots(k.Body, &all)
	return all
}

// TestNewMemory checks that a result shares no memory with the program, with another result, or with a part of itself, and that the program is not changed.
func TestNewMemory(t *testing.T) {
	p := program(t, strings.Replace(several, "f0", "b", 1))
	twice := []api.Expr{{Kind: api.EInt, Int: 7}}
	own := []api.Stmt{{Kind: api.SIf, Exprs: twice}, {Kind: api.SReturn}}
	p.Kernels[0].Body = append(p.Kernels[0].Body,
		api.Stmt{Kind: api.SIf, Exprs: []api.Expr{{Kind: api.EBinary, Kids: []api.Expr{{Kind: api.EUnary, Kids: twice}, {Kind: api.EUnary, Kids: twice}}}}, Body: own, Else: own},
		api.Stmt{Kind: api.SWhile, Exprs: twice, Body: own})
	p.Funcs[0].Body = append(p.Funcs[0].Body, api.Stmt{Kind: api.SReturn, Exprs: twice}, api.Stmt{Kind: api.SReturn, Exprs: twice})
	want := renamed(p, func(s string) string { return s }, func(unit int, s string) string { return s })
	seen := map[any]bool{}
	for _, slot := range slots(p.Funcs[0], p.Kernels[0]) {
		seen[slot] = true
	}
	total := len(seen)
	for range 2 {
		k, e := check.Kernel(p, "k")
		f, g := check.Func(p, "f")
		if e != api.OK || g != api.OK || !same(ofKernel(k), ofKernel(want.Kernels[0])) || !same(ofFunc(f), ofFunc(want.Funcs[0])) {
			t.Fatalf("%v, %d, %v, %d", k, e, f, g)
		}
		found := slots(f, k)
		for _, slot := range found {
			seen[slot] = true
		}
		if total += len(found); len(seen) != total {
			t.Errorf("%d of %d slots are different", len(seen), total)
		}
		if k.Name, e = "changed", check.Fits(p, launch(1, 1, 0, 0), memory(1, 1)); e != api.OK || !same(p, want) {
			t.Errorf("%d, %v, want %v", e, p, want)
		}
	}
}

// walkStmts calls see for each statement.
func walkStmts(l []api.Stmt, see func(s api.Stmt)) {
	for _, s := range l {
		see(s)
		walkStmts(s.Body, see)
		walkStmts(s.Else, see)
	}
}

func TestBarriersAndVariables(t *testing.T) {
	for s, want := range map[string]struct {
		barriers  int
		variables string
	}{
		"kernel k(buffer a, int b) { shared c[1]; a[b] = c[0]; b = 1; }": {0, ""},
		"kernel k() { barrier; }":                                                                                          {1, ""},
		"kernel k() { barrier; barrier; collect a = add 1; }":                                                              {3, "a"},
		"kernel k() { let b = 1; let a = 2; collect c = or a; }":                                                           {1, "a b c"},
		"kernel k() { if 1 { barrier; let a = 1; } else { collect a = add 1; } }":                                          {2, "a"},
		"kernel k() { while 1 { while 1 { barrier; let z = 1; } let y = 1; } }":                                            {1, "y z"},
		"kernel k() { if 1 { } else { if 1 { } else { barrier; } } barrier; }":                                             {2, ""},
		"kernel k() { if 1 { let a = 1; } let a = 1; while 1 { } }":                                                        {0, "a"},
		"kernel k() { let b = 1; if b { let a = 1; } if b { let a = 1; let A = 1; let a1 = 1; let a_ = 1; let aa = 1; } }": {0, "A a a1 a_ aa b"},
		"kernel k() { atomic add q[0], 1; break; continue; return; let b = 1; let b = 1; }":                                {0, "b"}, // it need not be sound
	} {
		k := program(t, s).Kernels[0]
		if n := check.Barriers(k); n != want.barriers {
			t.Errorf("%q: %d barriers, want %d", s, n, want.barriers)
		}
		if l := check.Variables(k); !slices.Equal(l, strings.Fields(want.variables)) {
			t.Errorf("%q: %q, want %q", s, l, want.variables)
		}
	}
	valid(t, func(p api.Program) {
		for _, k := range p.Kernels {
			barriers, declared := 0, map[string]bool{}
			walkStmts(k.Body, func(s api.Stmt) {
				if s.Kind == api.SBarrier || s.Kind == api.SCollect {
					barriers++
				}
				if s.Kind == api.SLet || s.Kind == api.SCollect {
					declared[s.Name] = true
				}
			})
			l := check.Variables(k)
			for i, name := range l {
				if !declared[name] || i > 0 && l[i-1] >= name {
					t.Fatalf("%v: %q", k, l)
				}
			}
			if n := check.Barriers(k); n != barriers || len(l) != len(declared) {
				t.Fatalf("%v: %d, %q, want %d, %v", k, n, l, barriers, declared)
			}
		}
	})
}

// TestAnyKernel checks that kernels that belong to no valid program have an answer, even if their lists contain themselves.
func TestAnyKernel(t *testing.T) {
	for _, p := range notValid() {
		for _, k := range p.Kernels {
			if syntax.Valid(ofKernel(k)) {
				t.Errorf("%q is valid", k.Name)
			}
			check.Barriers(k)
			check.Variables(k)
		}
	}
	check.Barriers(api.Kernel{})
	check.Variables(api.Kernel{})
}
