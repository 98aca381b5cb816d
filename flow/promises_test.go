package flow_test

import (
	"slices"
	"testing"

	"drawloom/api"
	"drawloom/check"
	"drawloom/flow"
)

// runWritten performs a launch of a written program's flow graph, whose threads may do as many steps as the chapter says.
func runWritten(t *testing.T, x written, turns ...int) api.Run {
	t.Helper()
	return runMost(t, x.f, x.l, x.m, x.most(t), turns...)
}

func isFree(r api.Run) bool { return r.End == api.OK && len(r.Races) == 0 }

// TestMeaning runs flow graphs of free launches by several turns.
func TestMeaning(t *testing.T) { // P6.1
	free, many, met := 0, 0, 0
	programs(t, 2000, nil, func(m *maker, x written) {
		if !isFree(x.want) {
			return
		}
		for i := range 5 {
			var turns []int
			if i > 0 {
				turns = m.turns(500 * i)
			}
			r := runWritten(t, x, turns...)
			if !isFree(r) || !sameMem(r.Mem, x.want.Mem) {
				t.Fatalf("%s: %v, %v by %d: %v, want %v", x.source, x.l, x.m, turns, r, x.want)
			}
		}
		free++
		if !sameMem(x.m, x.want.Mem) && x.l.Grid*x.l.Block > 1 {
			many++
			if check.Barriers(x.p.Kernels[0]) > 0 {
				met++
			}
		}
	})
	if free < 1000 || many < 400 || met < 200 {
		t.Errorf("only %d free launches, %d of more threads that change the memory, %d with barriers", free, many, met)
	}
}

// TestOneThread runs flow graphs of launches of one thread.
func TestOneThread(t *testing.T) { // P6.2
	runs, changed := 0, 0
	programs(t, 2000, nil, func(m *maker, x written) {
		x.l.Grid, x.l.Block = 1, 1
		x.run(t)
		if x.want.End != api.OK {
			return
		}
		r := runWritten(t, x, m.turns(50)...)
		if !isFree(r) || !sameMem(r.Mem, x.want.Mem) {
			t.Fatalf("%s: %v, %v: %v, want %v", x.source, x.l, x.m, r, x.want)
		}
		runs++
		if !sameMem(x.m, r.Mem) {
			changed++
		}
	})
	if runs < 1500 || changed < 700 {
		t.Errorf("only %d runs, %d that change the memory", runs, changed)
	}
}

// TestStuck runs flow graphs of launches that get stuck.
func TestStuck(t *testing.T) { // P6.3
	stuck := 0
	programs(t, 2500, func(a *author) { a.uneven, a.treats = 1, []int{own, summed} }, func(m *maker, x written) {
		if x.want.End != api.ErrStuck || len(x.want.Races) > 0 {
			return
		}
		for range 3 {
			turns := m.turns(1000)
			if r := runWritten(t, x, turns...); r.End != api.ErrStuck || len(r.Races) > 0 {
				t.Fatalf("%s: %v, %v by %d: %v", x.source, x.l, x.m, turns, r)
			}
		}
		stuck++
	})
	if stuck < 50 {
		t.Errorf("only %d launches get stuck", stuck)
	}
}

// TestRacesKept runs flow graphs of launches with races, in which no cell is both loaded and written.
func TestRacesKept(t *testing.T) { // P6.4
	racy := 0
	programs(t, 1500, func(a *author) { a.apart, a.treats = true, []int{loaded, wild, wild} }, func(m *maker, x written) {
		if x.want.End != api.OK || len(x.want.Races) == 0 {
			return
		}
		for i := range 3 {
			var turns []int
			if i > 0 {
				turns = m.turns(1000)
			}
			r := runWritten(t, x, turns...)
			if len(r.Races) == 0 {
				t.Fatalf("%s: %v, %v by %d: %v", x.source, x.l, x.m, turns, r)
			}
			for _, race := range r.Races {
				if race.A.Kind == 0 || race.B.Kind == 0 {
					t.Fatalf("%s: a race with a load: %v", x.source, race)
				}
			}
		}
		racy++
	})
	if racy < 300 {
		t.Errorf("only %d launches with races", racy)
	}
}

// TestLowerMade checks the form of flow graphs of programs.
func TestLowerMade(t *testing.T) {
	barriers := 0
	programs(t, 2000, nil, func(m *maker, x written) {
		wantForm(t, x.p, x.f)
		for _, n := range x.f.Nodes {
			barriers += len(slices.DeleteFunc(slices.Clone(n.Instrs), func(i api.Instr) bool { return i.Kind != api.IBarrier && i.Kind != api.ICollect }))
		}
		again, e := flow.Lower(x.p, "k")
		if e != api.OK || !sameFlow(again, x.f) {
			t.Fatalf("%s: %v, %d, at first %v", x.source, again, e, x.f)
		}
	})
	if barriers < 1500 {
		t.Errorf("only %d barriers", barriers)
	}
}

// wantForm checks what the chapter says of the form of the flow graph of the kernel k.
func wantForm(t *testing.T, p api.Program, f api.Flow) {
	t.Helper()
	k, _ := check.Kernel(p, "k")
	if !flow.Valid(f) || f.Name != "k" || !slices.Equal(f.Params, k.Params) || !slices.Equal(f.Shared, k.Shared) {
		t.Fatalf("%v: %v", p, f)
	}
	meets := meetsOf(k.Body)
	var numbers []int32
	for _, n := range f.Nodes {
		for _, x := range n.Instrs {
			if x.Kind == api.IPhi {
				t.Fatalf("%v: an IPhi: %v", p, f)
			}
			if x.Kind != api.IBarrier && x.Kind != api.ICollect {
				continue
			}
			if int(x.Imm) >= len(meets) || slices.Contains(numbers, x.Imm) {
				t.Fatalf("%v: the number %d: %v", p, x.Imm, f)
			}
			numbers = append(numbers, x.Imm)
			if s := meets[x.Imm]; (s.Kind == api.SCollect) != (x.Kind == api.ICollect) || s.Op != x.Op {
				t.Fatalf("%v: %v for %v", p, x, s)
			}
		}
	}
}

// meetsOf returns the barriers and collects in statements, in the order of the text.
func meetsOf(l []api.Stmt) []api.Stmt {
	var meets []api.Stmt
	for _, s := range l {
		if s.Kind == api.SBarrier || s.Kind == api.SCollect {
			meets = append(meets, s)
		}
		meets = append(meets, meetsOf(s.Body)...)
		meets = append(meets, meetsOf(s.Else)...)
	}
	return meets
}
