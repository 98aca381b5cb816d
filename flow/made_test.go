package flow_test

import (
	"testing"

	"drawloom/api"
	"drawloom/flow"
)

// madeRun is a launch of a made flow graph, with what becomes of it.
type madeRun struct {
	f     api.Flow
	l     api.Launch
	m     api.Mem
	turns []int
	most  int
	r     api.Run
}

// madeRuns calls use for launches of so many made flow graphs.
func madeRuns(t *testing.T, seeds int, use func(m *maker, x madeRun)) {
	t.Helper()
	for seed := range seeds {
		m := newMaker(int64(seed))
		x := madeRun{f: m.graph(), most: 1 + m.Intn(200)}
		x.l, x.m, x.turns = m.launch(x.f.Params)
		x.r = runMost(t, x.f, x.l, x.m, x.most, x.turns...)
		use(m, x)
	}
}

// TestRunMade compares runs of made flow graphs with those of the second definition.
func TestRunMade(t *testing.T) {
	ends := map[api.Errno]int{}
	racy, mixed, passed := 0, 0, 0
	madeRuns(t, 8000, func(m *maker, x madeRun) {
		want, w := refRun(x.f, x.l, x.m, x.turns, x.most)
		if !equal(x.r, want) {
			t.Fatalf("%v, want %v", x, want)
		}
		ends[x.r.End]++
		if len(x.r.Races) > 0 {
			racy++
		}
		if w.mixed > 0 {
			mixed++
		}
		if w.passed > 0 {
			passed++
		}
	})
	if ends[api.OK] < 5000 || ends[api.ErrFuel] < 1000 || ends[api.ErrStuck] < 50 || racy < 500 || mixed < 800 || passed < 3000 {
		t.Errorf("only ends %v, %d with races, %d with mixed barriers of %d with barriers", ends, racy, mixed, passed)
	}
}

// TestTurns runs made flow graphs that end without races by other turns.
func TestTurns(t *testing.T) { // P6.5
	runs, waited := 0, 0
	madeRuns(t, 3000, func(m *maker, x madeRun) {
		if x.r.End != api.OK || len(x.r.Races) > 0 {
			return
		}
		for range 6 {
			turns := m.turns(x.r.Steps + 1)
			r := runMost(t, x.f, x.l, x.m, x.most, turns...)
			if !equal(r, x.r) {
				t.Fatalf("%v by %d: %v", x, turns, r)
			}
		}
		runs++
		if _, w := refRun(x.f, x.l, x.m, nil, x.most); w.mixed > 0 {
			waited++
		}
	})
	if runs < 1500 || waited < 200 {
		t.Errorf("only %d runs, %d with mixed barriers", runs, waited)
	}
}

// TestFuelMade runs made flow graphs whose threads may do fewer and fewer steps.
func TestFuelMade(t *testing.T) {
	madeRuns(t, 300, func(m *maker, x madeRun) {
		for most := 1; most < 40; most++ {
			r := runMost(t, x.f, x.l, x.m, most, x.turns...)
			if want, _ := refRun(x.f, x.l, x.m, x.turns, most); !equal(r, want) {
				t.Fatalf("%v with %d steps: %v, want %v", x, most, r, want)
			}
		}
	})
}

// TestEdgesMade compares the edges of made flow graphs with the second definition.
func TestEdgesMade(t *testing.T) {
	for seed := range 2000 {
		f := newMaker(int64(seed)).graph()
		after, e := flow.Successors(f)
		if e != api.OK || len(after) != len(f.Nodes) {
			t.Fatalf("%v: %v, %d", f, after, e)
		}
		before, e := flow.Predecessors(f)
		if e != api.OK || len(before) != len(f.Nodes) {
			t.Fatalf("%v: %v, %d", f, before, e)
		}
		for i, n := range f.Nodes {
			wantInts(t, after[i], refSuccessors(n)...)
			wantInts(t, before[i], refPredecessors(f, i)...)
		}
	}
}
