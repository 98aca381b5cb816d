package ssa_test

import (
	"slices"
	"testing"

	"drawloom/api"
	"drawloom/flow"
	"drawloom/mean"
	"drawloom/syntax"
)

// run performs a launch of a flow graph, with at most so many steps for each thread.
func run(t *testing.T, f api.Flow, l api.Launch, m api.Mem, most int, turns ...int) api.Run {
	t.Helper()
	r, e := flow.Run(f, l, m, turns, most)
	if e != api.OK {
		t.Fatalf("%v, %v, %v, %d: %d", f, l, m, most, e)
	}
	return r
}

// tally counts launches that end in one of two ways, without races.
type tally struct{ ended, changed, met, stuck int }

// note counts a launch, and reports whether a promise is made for it.
func (c *tally) note(f api.Flow, m api.Mem, r api.Run) bool {
	if len(r.Races) > 0 || r.End == api.ErrFuel {
		return false
	}
	if r.End == api.ErrStuck {
		c.stuck++
		return true
	}
	c.ended++
	if !sameMem(m, r.Mem) {
		c.changed++
	}
	meets := func(x api.Instr) bool { return x.Kind == api.IBarrier || x.Kind == api.ICollect }
	if slices.ContainsFunc(f.Nodes, func(n api.Node) bool { return slices.ContainsFunc(n.Instrs, meets) }) {
		c.met++
	}
	return true
}

// wantMeaning checks that a launch that ends so without races ends so as a launch of another flow graph, by several turns. If the number of additional steps of each thread is known, it is checked, too.
func wantMeaning(t *testing.T, m *maker, f api.Flow, l api.Launch, memory api.Mem, want api.Run, more int) {
	t.Helper()
	for i := range 4 {
		var turns []int
		if i > 0 {
			turns = m.turns(400 * i)
		}
		r := run(t, f, l, memory, 100000, turns...)
		if r.End != want.End || len(r.Races) > 0 || r.End == api.OK && !sameMem(r.Mem, want.Mem) {
			t.Fatalf("%v: %v, %v by %d: %v, want %v", f, l, memory, turns, r, want)
		}
		if more >= 0 && r.Steps != want.Steps+more*l.Grid*l.Block {
			t.Fatalf("%v: %v, %v by %d: %d steps, want %d and %d for each thread", f, l, memory, turns, r.Steps, want.Steps, more)
		}
	}
}

// TestBuildMeaning runs launches of made flow graphs, and of what Build and Leave make of them.
func TestBuildMeaning(t *testing.T) { // P8.1
	var c tally
	for seed := range 6000 {
		m := newMaker(seed)
		f := m.graph()
		l, memory, turns := m.launch()
		want := run(t, f, l, memory, 300, turns...)
		if !c.note(f, memory, want) {
			continue
		}
		b := build(t, f)
		wantMeaning(t, m, b, l, memory, want, added(f, b))
		wantMeaning(t, m, leave(t, b), l, memory, want, -1)
	}
	if c.ended < 3000 || c.changed < 500 || c.met < 1500 || c.stuck < 60 {
		t.Errorf("only %+v", c)
	}
}

// TestLeaveMeaning runs launches of made flow graphs in form, and of what Leave makes of them.
func TestLeaveMeaning(t *testing.T) { // P8.1, P8.5
	var c tally
	for seed := range 6000 {
		m := newMaker(seed)
		f := m.inForm(true)
		l, memory, turns := m.launch()
		want := run(t, f, l, memory, 300, turns...)
		if !c.note(f, memory, want) {
			continue
		}
		left := leave(t, f)
		wantMeaning(t, m, left, l, memory, want, -1)
		wantMeaning(t, m, build(t, left), l, memory, want, -1)
	}
	if c.ended < 3000 || c.changed < 500 || c.met < 1500 || c.stuck < 60 {
		t.Errorf("only %+v", c)
	}
}

// TestCompactMeaning runs launches of any kind of made flow graphs, and of what Compact makes of them.
func TestCompactMeaning(t *testing.T) { // P8.4
	ends := map[api.Errno]int{}
	racy := 0
	for seed := range 3000 {
		m := newMaker(seed)
		f := m.graph()
		if seed%2 > 0 {
			f = m.inForm(true)
		}
		l, memory, turns := m.launch()
		want := run(t, f, l, memory, 100, turns...)
		got := run(t, compact(t, f), l, memory, 100, turns...)
		if got.End != want.End || got.Steps != want.Steps || !sameMem(got.Mem, want.Mem) || !slices.Equal(got.Races, want.Races) {
			t.Fatalf("%v: %v, %v by %d: %v, want %v", f, l, memory, turns, got, want)
		}
		ends[want.End]++
		racy += min(len(want.Races), 1)
	}
	if ends[api.OK] < 1000 || ends[api.ErrFuel] < 300 || ends[api.ErrStuck] < 50 || racy < 100 {
		t.Errorf("only ends %v, %d with races", ends, racy)
	}
}

// TestBuildNothing builds flow graphs in which each register is D of one instruction at most, which dominates all its uses.
func TestBuildNothing(t *testing.T) { // P8.3
	for seed := range 2000 {
		m := newMaker(seed)
		f := m.inForm(false)
		if b := build(t, f); !sameFlow(compact(t, b), compact(t, f)) {
			t.Fatalf("%v: %v", f, b)
		}
		// The words of registers that are D of no instruction are 0 everywhere.
		for i := range f.Nodes {
			n := &f.Nodes[i]
			for j := range n.Instrs {
				if x := &n.Instrs[j]; x.Kind == api.IBinary && m.Intn(2) == 0 {
					x.B = f.Regs
				}
			}
			if n.End == api.Branch && m.Intn(2) == 0 {
				n.A = f.Regs + 1
			}
		}
		f.Regs += 2
		b := build(t, f)
		if phis, _ := countPhis(b); phis > 0 || added(f, b) > 1 {
			t.Fatalf("%v: %v", f, b)
		}
		wantPaths(t, m, f, b)
	}
}

// TestKernels checks the memory at the end of launches of kernels.
func TestKernels(t *testing.T) { // P8.1
	for _, body := range []string{
		"",
		"a[tid] = n;",
		"let x = 1; if tid { x = 2; } a[tid] = x;",
		"let x = 1; if tid { x = 2; } else { x = 3; n = x; } a[tid] = x + n;",
		"let i = 0; while i < tid { i = i + 1; } a[tid] = i;",
		"let x = 1; let y = 2; let i = 0; while i < n { let z = x; x = y; y = z; i = i + 1; } a[tid] = x * 10 + y;",
		"let x = 1; let y = 2; let z = 3; let i = 0; while i < n + tid { let w = x; x = y; y = z; z = w; i = i + 1; } a[tid] = x * 100 + y * 10 + z;",
		"let x = 0; let y = 1; let i = 0; while i < n + tid { let z = x + y; x = y; y = z; i = i + 1; } a[tid] = x;",
		"let i = 0; let last = -1; while i < n { if i % 2 == tid % 2 { last = i; } i = i + 1; } a[tid] = last;",
		"let i = 0; let s = 0; while 1 { if i > tid { break; } let j = 0; while j < i { if j == 2 { j = j + 2; continue; } s = s + j * i; j = j + 1; } i = i + 1; } a[tid] = s * 100 + i;",
		"let s = 0; let i = 0; while i < 3 { collect m = max s + tid; s = s * 2 + m; i = i + 1; barrier; } a[tid] = s;",
		"let i = n; while i { t[tid] = t[tid] + i; i = i - 1; barrier; a[tid] = a[tid] + t[3 - tid]; barrier; }",
		"a[tid] = f(tid) + f(f(n)); n = f(-n); atomic add a[4], n + f(tid * tid);",
		"if tid == 1 { return; } let x = tid; while x < 100 { if x % 3 == 0 { x = x * 2 + 1; } else { x = x * 3; } if x > 90 { a[tid] = x; return; } } a[tid] = -x;",
	} {
		source := "func f(x) { let y = 1; while x > 1 { if x % 2 { x = x * 3 + 1; } else { x = x / 2; } y = y + 1; if y > 20 { return y - x; } } return y; } kernel k(buffer a, int n) { shared t[4]; " + body + "}"
		p, at, e := syntax.Parse(source)
		if e != api.OK {
			t.Fatalf("%q: %d, %d", source, at, e)
		}
		f, e := flow.Lower(p, "k")
		if e != api.OK {
			t.Fatalf("%q: %d", source, e)
		}
		l := api.Launch{Kernel: "k", Grid: 1, Block: 4, Args: []int32{0, 5}}
		m := api.Mem{{9, 9, 9, 9, 9}}
		want, e := mean.Run(p, l, m, nil)
		if e != api.OK || want.End != api.OK || len(want.Races) > 0 {
			t.Fatalf("%q: %v, %d", source, want, e)
		}
		b := build(t, f)
		wantMeaning(t, newMaker(1), b, l, m, want, -1)
		left := leave(t, b)
		wantMeaning(t, newMaker(2), left, l, m, want, -1)
		wantMeaning(t, newMaker(3), build(t, left), l, m, want, -1)
		wantMeaning(t, newMaker(4), compact(t, left), l, m, want, -1)
	}
}
