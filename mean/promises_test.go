package mean_test

import (
	"slices"
	"testing"

	"drawloom/api"
	"drawloom/mean"
)

// runMade performs a made launch.
func runMade(t *testing.T, x made, turns []int) api.Run {
	t.Helper()
	r, e := mean.Run(x.p, x.l, x.m, turns)
	if e != api.OK {
		t.Fatalf("%v: %d", x, e)
	}
	return r
}

// newMade returns the world of a made launch.
func newMade(t *testing.T, x made) *mean.World {
	t.Helper()
	w, e := mean.New(x.p, x.l, x.m)
	if w == nil || e != api.OK {
		t.Fatalf("%v: %d", x, e)
	}
	return w
}

// follow does steps of a world by turns, as Run does.
func follow(t *testing.T, w *mean.World, turns []int) {
	t.Helper()
	for _, turn := range turns {
		ready := w.Ready()
		if len(ready) == 0 {
			return
		}
		do(t, w, ready[(turn%len(ready)+len(ready))%len(ready)])
	}
}

// finish does the steps that are left, of the first ready thread.
func finish(t *testing.T, w *mean.World) {
	t.Helper()
	for ready := w.Ready(); len(ready) > 0; ready = w.Ready() {
		do(t, w, ready[0])
	}
}

// TestReference compares runs of made launches with those of the second definition.
func TestReference(t *testing.T) {
	ends := map[api.Errno]int{}
	racy, free := 0, 0
	launches(t, 4000, func(m *maker, x made) {
		r := runMade(t, x, x.turns)
		if want, _, _ := refRun(x.p, x.l, x.m, x.turns); !equal(r, want) {
			t.Fatalf("%v: %v, want %v", x, r, want)
		}
		ends[r.End]++
		if len(r.Races) > 0 {
			racy++
		}
		want, _, _ := refRun(x.p, x.l, x.m, nil)
		isFree, e := mean.Free(x.p, x.l, x.m)
		if isFree != (want.End == api.OK && len(want.Races) == 0) || e != api.OK {
			t.Fatalf("%v: free: %v, %d, but %v", x, isFree, e, want)
		}
		if isFree {
			free++
		}
	})
	if ends[api.ErrFuel] < 50 || ends[api.ErrStuck] < 30 || racy < 500 || free < 2000 {
		t.Errorf("only ends %v, %d with races, %d free launches", ends, racy, free)
	}
}

// TestReferenceWorld compares what a world tells after each step with what the second definition says.
func TestReferenceWorld(t *testing.T) {
	steps := 0
	launches(t, 400, func(m *maker, x made) {
		w, ref := newMade(t, x), newRefWorld(x.p, x.l, x.m)
		defer ref.close()
		for k := range 120 {
			done, e := ref.end()
			r := ref.result()
			r.End = api.OK
			if want := (state{ref.ready(), done, e, r}); !stateOf(w).equal(want) {
				t.Fatalf("%v: after %d steps %v, want %v", x, k, stateOf(w), want)
			}
			if done {
				break
			}
			ready := ref.ready()
			at := ready[m.Intn(len(ready))]
			do(t, w, at)
			ref.step(at)
			steps++
		}
	})
	if steps < 10000 {
		t.Errorf("only %d steps", steps)
	}
}

// TestFreeTurns runs free launches by several turns.
func TestFreeTurns(t *testing.T) { // P5.1
	shared, met := 0, 0
	launches(t, 1500, func(m *maker, x made) {
		if free, _ := mean.Free(x.p, x.l, x.m); !free {
			return
		}
		want := runMade(t, x, nil)
		for range 5 {
			turns := m.turns(want.Steps + 1)
			if r := runMade(t, x, turns); !equal(r, want) {
				t.Fatalf("%v by %d: %v, want %v", x, turns, r, want)
			}
		}
		_, log, _ := refRun(x.p, x.l, x.m, nil)
		if slices.ContainsFunc(log, func(e api.Event) bool { return e.Phase > 0 }) {
			met++
		}
		if sharesCell(log) {
			shared++
		}
	})
	if shared < 100 || met < 300 {
		t.Errorf("only %d free launches with a cell that a thread changes and another one accesses, %d with accesses after a barrier", shared, met)
	}
}

// sharesCell reports whether two threads access a cell that one of them changes.
func sharesCell(log []api.Event) bool {
	for _, a := range log {
		for _, b := range log {
			x, y := a.Access, b.Access
			if sameCell(x, y) && (x.Block != y.Block || x.Thread != y.Thread) && x.Kind != load {
				return true
			}
		}
	}
	return false
}

// TestApart runs launches by turns that begin with the same ones, while other runs are going on.
func TestApart(t *testing.T) { // P5.2
	launches(t, 800, func(m *maker, x made) {
		first, second, third := x.turns[:len(x.turns)/2], x.turns[len(x.turns)/2:], m.turns(200)
		one, two := newMade(t, x), newMade(t, x)
		follow(t, one, first)
		follow(t, two, append(slices.Clone(first), third...)[:len(first)])
		if !stateOf(one).equal(stateOf(two)) {
			t.Fatalf("%v: %v, and %v", x, stateOf(one), stateOf(two))
		}
		copied := two.Clone()
		before := stateOf(copied)
		follow(t, one, second)
		follow(t, two, third)
		if !stateOf(copied).equal(before) {
			t.Fatalf("%v: %v has become %v", x, before, stateOf(copied))
		}
		follow(t, copied, second)
		if !stateOf(one).equal(stateOf(copied)) {
			t.Fatalf("%v: %v, and by a copy %v", x, stateOf(one), stateOf(copied))
		}
		finish(t, copied)
		_, e := copied.End()
		if got, want := (api.Run{End: e, Mem: copied.Mem(), Races: copied.Races(), Steps: copied.Steps()}), runMade(t, x, x.turns); !equal(got, want) {
			t.Fatalf("%v: %v, and by Run %v", x, got, want)
		}
	})
}

// apartBlocks reports whether no cell of a buffer is accessed by two blocks.
func apartBlocks(log []api.Event) bool {
	for i, a := range log {
		for _, b := range log[:i] {
			if a.Access.Space >= 0 && sameCell(a.Access, b.Access) && a.Access.Block != b.Access.Block {
				return false
			}
		}
	}
	return true
}

// TestBlocks does the steps of each block without those of the others.
func TestBlocks(t *testing.T) { // P5.3
	tried, raced := 0, 0
	launches(t, 3000, func(m *maker, x made) {
		want, log, done := refRun(x.p, x.l, x.m, x.turns)
		if x.l.Grid == 1 || len(log) == 0 || !apartBlocks(log) {
			return
		}
		tried++
		got := api.Run{Steps: want.Steps, Mem: slices.Clone(x.m)}
		for i := range got.Mem {
			got.Mem[i] = slices.Clone(got.Mem[i])
		}
		for bid := range x.l.Grid {
			addBlock(t, &got, bid, log, blockOf(t, x, done, bid))
		}
		r := runMade(t, x, x.turns)
		if !equal(byBlock(r, x.l.Grid), got) {
			t.Fatalf("%v: %v, and by block %v", x, r, got)
		}
		if len(r.Races) > 0 {
			raced++
		}
	})
	if tried < 400 || raced < 40 {
		t.Errorf("only %d launches, %d with races", tried, raced)
	}
}

// blockOf does the steps of one block, among those that were done.
func blockOf(t *testing.T, x made, done []int, bid int) *mean.World {
	t.Helper()
	w := newMade(t, x)
	for _, thread := range done {
		if thread/x.l.Block == bid {
			do(t, w, thread)
		}
	}
	return w
}

// addBlock adds the cells that a block has accessed, and its races.
func addBlock(t *testing.T, r *api.Run, bid int, log []api.Event, w *mean.World) {
	t.Helper()
	m := w.Mem()
	for _, e := range log {
		if a := e.Access; a.Space >= 0 && a.Block == bid {
			r.Mem[a.Space][a.Cell] = m[a.Space][a.Cell]
		}
	}
	for _, race := range w.Races() {
		if race.A.Block != bid || race.B.Block != bid {
			t.Errorf("%v is no race of block %d", race, bid)
		}
		r.Races = append(r.Races, race)
	}
}

// byBlock orders the races of a run by block, and leaves its end out.
func byBlock(r api.Run, grid int) api.Run {
	var races []api.Race
	for bid := range grid {
		for _, race := range r.Races {
			if race.A.Block == bid {
				races = append(races, race)
			}
		}
	}
	return api.Run{Mem: r.Mem, Steps: r.Steps, Races: races}
}

// TestWitness checks that what is reported are races of accesses that were executed, one of each cell that has any, and the first one of them.
func TestWitness(t *testing.T) { // P5.4
	reported := 0
	launches(t, 1500, func(m *maker, x made) {
		r := runMade(t, x, x.turns)
		_, log, _ := refRun(x.p, x.l, x.m, x.turns)
		left := slices.Clone(r.Races)
		for i, b := range log {
			at := slices.IndexFunc(log[:i], func(a api.Event) bool { return isRace(a, b) })
			if at < 0 || slices.ContainsFunc(log[:i], func(c api.Event) bool { return hasRace(log[:i], c) && sameCell(c.Access, b.Access) }) {
				continue
			}
			want := api.Race{A: log[at].Access, B: b.Access}
			if len(left) == 0 || left[0] != want {
				t.Fatalf("%v: %v, want %v next", x, left, want)
			}
			left = left[1:]
			reported++
		}
		if len(left) > 0 {
			t.Fatalf("%v: %v are no races", x, left)
		}
	})
	if reported < 300 {
		t.Errorf("only %d races", reported)
	}
}

// hasRace reports whether an access is in a race with one of some others.
func hasRace(log []api.Event, e api.Event) bool {
	return slices.ContainsFunc(log, func(a api.Event) bool { return isRace(a, e) })
}

// renamed returns statements in which all names but those of functions are replaced.
func renamed(l []api.Stmt, name func(s string) string) []api.Stmt {
	var out []api.Stmt
	for _, s := range l {
		if s.Name != "" {
			s.Name = name(s.Name)
		}
		s.Exprs, s.Body, s.Else = renamedExprs(s.Exprs, name), renamed(s.Body, name), renamed(s.Else, name)
		out = append(out, s)
	}
	return out
}

func renamedExprs(l []api.Expr, name func(s string) string) []api.Expr {
	var out []api.Expr
	for _, x := range l {
		if x.Kind == api.EName || x.Kind == api.ELoad {
			x.Name = name(x.Name)
		}
		x.Kids = renamedExprs(x.Kids, name)
		out = append(out, x)
	}
	return out
}

// turned returns a function that gives each name the one that stands some places further in the list of all names.
func turned(places int) func(s string) string {
	return func(s string) string { return allNames[(slices.Index(allNames, s)+places)%len(allNames)] }
}

// renamedProgram gives new names to the variables, parameters and arrays of a program, other ones in each function.
func renamedProgram(p api.Program) api.Program {
	var out api.Program
	for i, f := range p.Funcs {
		g := api.Func{Name: f.Name, Body: renamed(f.Body, turned(i+2))}
		for _, s := range f.Params {
			g.Params = append(g.Params, turned(i+2)(s))
		}
		out.Funcs = append(out.Funcs, g)
	}
	for _, k := range p.Kernels {
		l := api.Kernel{Name: k.Name, Body: renamed(k.Body, turned(1))}
		for _, x := range k.Params {
			l.Params = append(l.Params, api.Param{Name: turned(1)(x.Name), Buffer: x.Buffer})
		}
		for _, a := range k.Shared {
			l.Shared = append(l.Shared, api.Array{Name: turned(1)(a.Name), Size: a.Size})
		}
		out.Kernels = append(out.Kernels, l)
	}
	return out
}

func TestRenamed(t *testing.T) { // P5.5
	launches(t, 1000, func(m *maker, x made) {
		q := renamedProgram(x.p)
		r := runMade(t, x, x.turns)
		if got, e := mean.Run(q, x.l, x.m, x.turns); e != api.OK || !equal(got, r) {
			t.Fatalf("%v: %v, and renamed %v, %d", x, r, got, e)
		}
		for _, f := range x.p.Funcs {
			args := []int32{3, -1, 100, 2}[:len(f.Params)]
			word, e := mean.Call(x.p, f.Name, args)
			if got, d := mean.Call(q, f.Name, args); got != word || d != e {
				t.Fatalf("%v: %d, %d, and renamed %d, %d", f, word, e, got, d)
			}
		}
	})
}

// orders calls use with all orders of some words.
func orders(words []int32, from int, use func(words []int32)) {
	if from == len(words) {
		use(words)
		return
	}
	for i := from; i < len(words); i++ {
		next := slices.Clone(words)
		next[from], next[i] = next[i], next[from]
		orders(next, from+1, use)
	}
}

// TestNeutral gives the same words to the threads of a block in all orders, and lets them take turns in all orders.
func TestNeutral(t *testing.T) { // P5.6
	for _, op := range []string{"add", "min", "max", "and", "or", "xor"} {
		p := program(t, "kernel k(buffer a, buffer b) { collect s = "+op+" a[tid]; b[tid] = s; }")
		for _, words := range [][]int32{{5, -3, greatest, 12}, {least, least, 7, 1}, {0, 0, 0, 0}, {-1, 6, 6, -8}} {
			want, e := mean.Run(p, launch(1, 4, 0, 1), api.Mem{words, cells(4)}, nil)
			if e != api.OK || want.End != api.OK {
				t.Fatalf("%s: %v, %d", op, want, e)
			}
			orders(words, 0, func(given []int32) {
				orders([]int32{0, 1, 2, 3}, 0, func(threads []int32) {
					w, _ := mean.New(p, launch(1, 4, 0, 1), api.Mem{given, cells(4)})
					for range 2 {
						for _, thread := range threads {
							do(t, w, int(thread))
						}
					}
					if got := w.Mem()[1]; !slices.Equal(got, want.Mem[1]) {
						t.Errorf("%s of %d by %d: %d, want %d", op, given, threads, got, want.Mem[1])
					}
				})
			})
		}
	}
}

// TestCallReference compares values of made functions with those of the second definition, by a kernel that calls them.
func TestCallReference(t *testing.T) {
	called, spent := 0, 0
	launches(t, 1500, func(m *maker, x made) {
		for _, f := range x.p.Funcs {
			var args []int32
			call := api.Expr{Kind: api.ECall, Name: f.Name}
			k := api.Kernel{Name: "k", Params: []api.Param{{Name: "result", Buffer: true}}}
			for i := range f.Params {
				args = append(args, m.number())
				name := string(rune('a' + i))
				k.Params = append(k.Params, api.Param{Name: name})
				call.Kids = append(call.Kids, api.Expr{Kind: api.EName, Name: name})
			}
			k.Body = []api.Stmt{{Kind: api.SPut, Name: "result", Exprs: []api.Expr{{Kind: api.EInt}, call}}}
			p := api.Program{Funcs: x.p.Funcs, Kernels: []api.Kernel{k}}
			want, _, _ := refRun(p, api.Launch{Kernel: "k", Grid: 1, Block: 1, Args: append([]int32{0}, args...)}, api.Mem{{0}}, nil)
			word, e := mean.Call(p, f.Name, args)
			if e != want.End || word != want.Mem[0][0] {
				t.Fatalf("%v: %d, %d, want %v", f, word, e, want)
			}
			called++
			if e == api.ErrFuel {
				spent++
			}
		}
	})
	if called < 1500 || spent < 20 {
		t.Errorf("only %d calls, %d of them with too many steps", called, spent)
	}
}
