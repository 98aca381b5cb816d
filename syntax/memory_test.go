package syntax_test

import (
	"testing"

	"drawloom/api"
	"drawloom/syntax"
)

// collectSlots appends the addresses of all expressions of a list, up to its capacity, and of those in them.
func collectSlots(l []api.Expr, slots *[]*api.Expr) {
	l = l[:cap(l)]
	for i := range l {
		*slots = append(*slots, &l[i])
		collectSlots(l[i].Kids, slots)
	}
}

// overwriteProgram changes every list of a program, up to its capacity.
func overwriteProgram(p api.Program) {
	for _, f := range p.Funcs {
		clear(f.Params[:cap(f.Params)])
		overwrite(f.Body)
	}
	for _, k := range p.Kernels {
		clear(k.Params[:cap(k.Params)])
		clear(k.Shared[:cap(k.Shared)])
		overwrite(k.Body)
	}
	clear(p.Funcs[:cap(p.Funcs)])
	clear(p.Kernels[:cap(p.Kernels)])
}

func overwrite(l []api.Stmt) {
	for _, s := range l {
		overwriteExprs(s.Exprs)
		overwrite(s.Body)
		overwrite(s.Else)
	}
	clear(l[:cap(l)])
}

func overwriteExprs(l []api.Expr) {
	for _, e := range l {
		overwriteExprs(e.Kids)
	}
	clear(l[:cap(l)])
}

// TestNewMemory checks that a result shares no memory with another result, or with a part of itself.
func TestNewMemory(t *testing.T) {
	s := "func f(a, b) { return f(a, b) + a; } kernel k(buffer a, int b) { shared s[1]; shared t[2]; if a[1] < 2 { a[1] = 2; b = 3; } else { b = 4; break; } barrier; }"
	first, _, _ := syntax.Parse(s)
	want := plain(first)
	second, _, _ := syntax.Parse(s)
	overwriteProgram(first)
	if third, _, _ := syntax.Parse(s); !same(second, want) || !same(third, want) {
		t.Errorf("%v and %v, want %v", second, third, want)
	}
	var slots []*api.Expr
	collectSlots(second.Kernels[0].Body[0].Exprs, &slots)
	collectSlots(second.Funcs[0].Body[0].Exprs, &slots)
	apart := map[*api.Expr]bool{}
	for _, slot := range slots {
		apart[slot] = true
	}
	if len(slots) < 8 || len(apart) != len(slots) {
		t.Errorf("%d of %d slots are different", len(apart), len(slots))
	}
}
