package mean_test

import (
	"slices"
	"testing"

	"drawloom/api"
	"drawloom/mean"
)

// state is all that a world tells.
type state struct {
	ready []int
	done  bool
	end   api.Errno
	run   api.Run
}

func stateOf(w *mean.World) state {
	done, e := w.End()
	return state{w.Ready(), done, e, api.Run{Mem: w.Mem(), Races: w.Races(), Steps: w.Steps()}}
}

func (s state) equal(o state) bool {
	return slices.Equal(s.ready, o.ready) && s.done == o.done && s.end == o.end && equal(s.run, o.run)
}

// do does steps of threads.
func do(t *testing.T, w *mean.World, threads ...int) {
	t.Helper()
	for i, thread := range threads {
		if e := w.Step(thread); e != api.OK {
			t.Fatalf("step %d of thread %d: %d", i, thread, e)
		}
	}
}

// wantState compares what a world tells with what it has to tell; the errors of Step, too.
func wantState(t *testing.T, w *mean.World, want state) {
	t.Helper()
	got := stateOf(w)
	if !got.equal(want) {
		t.Errorf("%v, want %v", got, want)
	}
	for _, thread := range []int{least, -1, 0, 1, 2, 3, 4, 5, 6, 256, greatest} {
		e := api.ErrArg
		if want.done {
			e = api.ErrState
		}
		if slices.Contains(want.ready, thread) {
			continue
		}
		if got := w.Step(thread); got != e {
			t.Errorf("a step of %d: %d, want %d", thread, got, e)
		}
	}
	if !stateOf(w).equal(got) {
		t.Errorf("a step with an error has changed the state: %v, want %v", stateOf(w), got)
	}
}

func TestWorld(t *testing.T) {
	w := world(t, "kernel k(buffer a) { a[tid] = 1 + tid; barrier; if tid { a[tid + 1] = a[1 - tid]; } }", launch(1, 2, 0), api.Mem{{0, 0, 0}, {8}})
	at := func(steps int, ready []int, words ...int32) state {
		return state{ready: ready, run: api.Run{Mem: api.Mem{words, {8}}, Steps: steps}}
	}
	wantState(t, w, at(0, []int{0, 1}, 0, 0, 0))
	do(t, w, 1)
	wantState(t, w, at(1, []int{0, 1}, 0, 2, 0))
	do(t, w, 1)
	wantState(t, w, at(2, []int{0}, 0, 2, 0))
	do(t, w, 0)
	wantState(t, w, at(3, []int{0}, 1, 2, 0))
	do(t, w, 0) // now both go on, without a step of thread 1
	wantState(t, w, at(4, []int{0, 1}, 1, 2, 0))
	do(t, w, 1, 0)
	wantState(t, w, at(6, []int{1}, 1, 2, 0))
	do(t, w, 1)
	end := at(7, nil, 1, 2, 1)
	end.done = true
	wantState(t, w, end)
}

// TestBegin checks threads that end before the first step.
func TestBegin(t *testing.T) {
	for _, s := range []string{"kernel k() { }", "kernel k() { shared s[3]; }"} {
		wantState(t, world(t, s, launch(3, 2), api.Mem{{5, 6}}), state{done: true, run: api.Run{Mem: api.Mem{{5, 6}}}})
	}
}

// TestLast checks statements with which threads end, as a part of the step.
func TestLast(t *testing.T) {
	for s, steps := range map[string]int{
		"kernel k(int n) { n = 1; }":                          1,
		"kernel k(int n) { return; n = 1; }":                  1,
		"kernel k(int n) { if 1 { } }":                        1,
		"kernel k(int n) { if 1 { return; } n = 1; }":         2,
		"kernel k(int n) { if 0 { n = 1; } }":                 1,
		"kernel k(int n) { if 0 { } else { n = 1; } }":        2,
		"kernel k(int n) { while 0 { n = 1; } }":              1,
		"kernel k(int n) { while 1 { break; } }":              2,
		"kernel k(int n) { while n { n = 0; continue; } }":    4,
		"kernel k(int n) { if 1 { while 1 { return; } } }":    3,
		"kernel k(int n) { barrier; }":                        1,
		"kernel k(int n) { if n { collect s = add 1; } }":     2,
		"kernel k(int n) { while n { n = 0; barrier; } }":     4,
		"kernel k(int n) { shared s[1]; atomic or s[0], 1; }": 1,
	} {
		w := world(t, s, launch(1, 1, 1), nil)
		for i := range steps {
			wantState(t, w, state{ready: []int{0}, run: api.Run{Steps: i}})
			do(t, w, 0)
		}
		wantState(t, w, state{done: true, run: api.Run{Steps: steps}})
	}
}

// TestStuck checks which threads wait for each other forever, in two blocks of two threads.
func TestStuck(t *testing.T) {
	for s, want := range map[string]api.Errno{
		"barrier;":                                                  api.OK,
		"if tid { barrier; }":                                       api.ErrStuck,
		"if tid { barrier; } barrier;":                              api.ErrStuck, // two statements
		"if tid { barrier; } else { barrier; }":                     api.ErrStuck,
		"if tid { barrier; } else { collect s = add 1; }":           api.ErrStuck,
		"if tid { collect s = add 1; } else { collect s = add 1; }": api.ErrStuck,
		"if tid == 0 { return; } barrier;":                          api.ErrStuck, // a thread has ended
		"if bid { barrier; }":                                       api.OK,
		"if bid { return; } barrier;":                               api.OK,
		"if bid { barrier; } else { collect s = add 1; }":           api.OK,
		"if tid < bid { barrier; }":                                 api.ErrStuck, // only one block
		"let i = 0; while i < 3 + tid { i = i + 1; barrier; }":      api.ErrStuck,
		"let i = 0; while i < 3 + bid { i = i + 1; barrier; }":      api.OK,
		"let i = 0; while i < 3 { if i == tid * 5 { i = i + 1; continue; } barrier; i = i + 1; }": api.ErrStuck, // one waits and the other one has ended
		"let i = tid; while i < 4 { barrier; i = i + 2; }":                                        api.OK,
		"let i = tid; while i < 4 { i = i + 1; collect s = add i; i = i + 1; }":                   api.OK,
	} {
		s = "kernel k() { " + s + " }"
		for _, turns := range [][]int{nil, {3, 2, 1, 0, 3, 2, 1}, {1, 1, 1, 1, -1, -1, -1, 2}} {
			if r := run(t, s, launch(2, 2), nil, turns...); r.End != want {
				t.Errorf("%q: %v, want %d", s, r, want)
			}
		}
	}
}

// TestStuckWorld checks what a world tells after threads got stuck, and while others are still ready.
func TestStuckWorld(t *testing.T) {
	w := world(t, "kernel k(buffer a) { if tid == bid { barrier; } a[bid * 2 + tid] = 1; }", launch(2, 2, 0), api.Mem{cells(4)})
	do(t, w, 0, 0)
	wantState(t, w, state{ready: []int{1, 2, 3}, run: api.Run{Mem: api.Mem{{0, 0, 0, 0}}, Steps: 2}})
	do(t, w, 1, 1)
	wantState(t, w, state{ready: []int{2, 3}, run: api.Run{Mem: api.Mem{{0, 1, 0, 0}}, Steps: 4}})
	do(t, w, 2, 3, 3, 2)
	wantState(t, w, state{done: true, end: api.ErrStuck, run: api.Run{Mem: api.Mem{{0, 1, 1, 0}}, Steps: 8}})
}

// TestCollect checks the fold of each operator, for threads that contribute in any order.
func TestCollect(t *testing.T) {
	words := []int32{12, -10, 7, 1 << 30, 5}
	for op, want := range map[string]int32{"add": 14 + 1<<30, "min": -10, "max": 1 << 30, "and": 0, "or": 12 | -10 | 7 | 1<<30 | 5, "xor": 12 ^ -10 ^ 7 ^ 1<<30 ^ 5} {
		s := "kernel k(buffer a, buffer b) { collect s = " + op + " a[tid]; b[tid] = s; }"
		for _, turns := range [][]int{nil, {4, 3, 2, 1}, {2, 2, 0, 0, 0}} {
			r := run(t, s, launch(1, 5, 0, 1), api.Mem{words, cells(5)}, turns...)
			if !equal(r, api.Run{Mem: api.Mem{words, {want, want, want, want, want}}, Steps: 10}) {
				t.Errorf("%s: %v, want %d", op, r, want)
			}
		}
	}
}

// TestCollectBlocks checks that a collect is one of a block, and that it sets the variable again in each round of a loop.
func TestCollectBlocks(t *testing.T) {
	const s = "kernel k(buffer a) { let i = 0; while i < 3 { collect s = add tid + bid * 10 + i; i = i + 1; atomic add a[bid * dim + tid], s * i; s = 0; } }"
	for _, turns := range [][]int{nil, {5, 4, 3, 2, 1, 0, 5, 4, 3, 2}} {
		r := run(t, s, launch(2, 3, 0), api.Mem{cells(7)}, turns...)
		// in block 0: 3 * 1 + 6 * 2 + 9 * 3; 30 more in each round of block 1
		if want := (api.Run{Mem: api.Mem{{42, 42, 42, 222, 222, 222, 0}}, Steps: 6 * 17}); !equal(r, want) {
			t.Errorf("%v, want %v", r, want)
		}
	}
}

// TestShared checks that each block has its own shared arrays, which are 0 at first.
func TestShared(t *testing.T) {
	const s = "kernel k(buffer a) { shared s[2]; shared r[64]; s[tid] = s[tid] + bid * 10 + tid + 1; r[63] = r[63]; barrier; a[bid * dim + tid] = s[1 - tid] + r[tid]; }"
	for _, turns := range [][]int{nil, {5, 4, 3, 2, 1, 0, 5, 4, 3, 2}, {0, 2, 4, 1, 3, 5}} {
		r := run(t, s, launch(3, 2, 0), api.Mem{cells(6)}, turns...)
		if len(r.Races) != 3 { // those of r[63]
			t.Errorf("%v", r)
		}
		r.Races = nil
		if want := (api.Run{Mem: api.Mem{{2, 1, 12, 11, 22, 21}}, Steps: 24}); !equal(r, want) {
			t.Errorf("%v, want %v", r, want)
		}
	}
}

// TestTurns checks which thread does the step of a turn.
func TestTurns(t *testing.T) {
	const s = "kernel k(buffer a) { let n = a[0]; a[n + 1] = bid * 2 + tid; a[0] = n + 1; }"
	for i, x := range []struct {
		turns []int
		want  []int32 // the threads in the order in which they end, if each turn stands three times, for all steps of a thread
	}{
		{nil, []int32{0, 1, 2, 3}},
		{[]int{0, 0, 0, 0}, []int32{0, 1, 2, 3}},
		{[]int{2, 0, 1, 0}, []int32{2, 0, 3, 1}},
		{[]int{3, 3, 3, 3}, []int32{3, 0, 2, 1}},
		{[]int{-1, -1, -1, -1}, []int32{3, 2, 1, 0}},
		{[]int{-4, -4, -4, -4}, []int32{0, 3, 1, 2}},
		{[]int{-5, 5, -2}, []int32{3, 2, 0, 1}},
		{[]int{greatest, least}, []int32{3, 1, 0, 2}},
		{[]int{1}, []int32{1, 0, 2, 3}},
		{[]int{6, 7, 9, 11, 5, 5, 5}, []int32{2, 1, 3, 0}},
	} {
		var turns []int
		for _, turn := range x.turns {
			turns = append(turns, turn, turn, turn)
		}
		r := run(t, s, launch(2, 2, 0), api.Mem{cells(5)}, turns...)
		if r.End != api.OK || r.Steps != 12 || !slices.Equal(r.Mem[0][1:], x.want) {
			t.Errorf("%d: %v, want %d", i, r, x.want)
		}
	}
}

// TestGreatTurns checks turns of more than 32 bits: a gets the numbers of the threads as digits, in the order of their steps.
func TestGreatTurns(t *testing.T) {
	for turn, want := range map[int]int32{1 << 40: 21345, -1 << 63: 31245, 1<<63 - 1: 31245, 1<<32 + 1: 31245, -1 << 40: 51234, 1<<33 + 1: 41235} {
		r := run(t, "kernel k(buffer a) { a[0] = a[0] * 10 + tid + 1; }", launch(1, 5, 0), api.Mem{{0}}, turn)
		if r.Mem[0][0] != want {
			t.Errorf("%d: %v, want %d", turn, r, want)
		}
	}
}

// TestClone checks that a copy is in the same state as the world, and then independent of it.
func TestClone(t *testing.T) {
	const s = "kernel k(buffer a) { shared s[2]; let x = a[0]; s[tid] = 5; atomic add a[0], 1; collect y = add x; s[1 - tid] = y; a[1] = x + s[tid]; }"
	alone := world(t, s, launch(1, 2, 0), api.Mem{{3, 0}})
	steps := []int{1, 0, 0, 1, 1, 0, 1, 0, 0, 1, 0, 1}
	for i, thread := range steps {
		w := world(t, s, launch(1, 2, 0), api.Mem{{3, 0}})
		do(t, w, steps[:i]...)
		one := w.Clone()
		before := stateOf(w)
		if !before.equal(stateOf(alone)) || !before.equal(stateOf(one)) {
			t.Fatalf("%d: %v, and cloned %v", i, before, stateOf(one))
		}
		do(t, w, steps[i:]...)
		two := one.Clone()
		if !before.equal(stateOf(one)) || !before.equal(stateOf(two)) {
			t.Fatalf("%d: %v has become %v and %v", i, before, stateOf(one), stateOf(two))
		}
		do(t, two, steps[i:]...)
		do(t, one, steps[i:]...)
		if !stateOf(w).equal(stateOf(one)) || !stateOf(w).equal(stateOf(two)) {
			t.Errorf("%d: %v, and as a copy %v and %v", i, stateOf(w), stateOf(one), stateOf(two))
		}
		do(t, alone, thread)
	}
	wantState(t, alone.Clone(), stateOf(alone))
	if done, e := alone.End(); !done || e != api.OK {
		t.Errorf("%v, %d", done, e)
	}
}

// TestCloneRaces checks that a world and its copy take note of accesses apart.
func TestCloneRaces(t *testing.T) {
	w := world(t, "kernel k(buffer a) { if tid == 0 { let x = a[0]; a[0] = 1; atomic add a[0], 1; } barrier; if tid == 3 { let x = a[0]; } else { a[0] = tid; } }", launch(1, 4, 0), api.Mem{{0}})
	do(t, w, 0, 0, 0, 0, 0, 1, 1, 2, 2, 3, 3)
	c := w.Clone()
	do(t, w, 1, 1)
	do(t, c, 2, 2)
	do(t, w, 3, 3)
	do(t, c, 3, 3)
	for first, races := range map[int][]api.Race{1: w.Races(), 2: c.Races()} {
		if want := []api.Race{inBlock(0, 0, first, store, 3, load)}; !slices.Equal(races, want) {
			t.Errorf("%v, want %v", races, want)
		}
	}
	do(t, w, 0, 0)
	do(t, c, 0, 0)
	if len(w.Races()) != 1 || len(c.Races()) != 1 {
		t.Errorf("%v, %v", w.Races(), c.Races())
	}
}

// TestCloneEnds checks copies of worlds whose runs have ended with errors.
func TestCloneEnds(t *testing.T) {
	for s, want := range map[string]api.Errno{"kernel k(buffer a) { while 1 { a[0] = 2; } }": api.ErrFuel, "kernel k(buffer a) { a[0] = 2; if tid { barrier; } }": api.ErrStuck} {
		w := world(t, s, launch(1, 2, 0), api.Mem{{0}})
		for len(w.Ready()) > 0 {
			do(t, w, w.Ready()[0])
		}
		c := w.Clone()
		if done, e := c.End(); !done || e != want || !stateOf(w).equal(stateOf(c)) {
			t.Errorf("%q: %v, %d, want %d", s, done, e, want)
		}
		wantState(t, c, stateOf(w))
	}
}

// TestFresh checks that what a world returns is new memory.
func TestFresh(t *testing.T) { // R5
	w := world(t, "kernel k(buffer a) { a[0] = tid; a[1] = tid; }", launch(1, 3, 0), api.Mem{{0, 0}, {0, 0}})
	do(t, w, 2, 1, 1)
	before := stateOf(w)
	w.Ready()[0] = 2
	m := w.Mem()
	m[0][0], m[1] = 50, nil
	w.Races()[0].A.Cell = 1
	if !stateOf(w).equal(before) {
		t.Errorf("%v, want %v", stateOf(w), before)
	}
	_ = append(w.Races(), api.Race{})
	do(t, w, 2)
	if races := w.Races(); len(races) != 2 || races[1].B.Thread != 2 {
		t.Errorf("%v", races)
	}
}

// TestNone checks the methods of a nil World and a zero World.
func TestNone(t *testing.T) { // R1
	for _, w := range []*mean.World{nil, {}} {
		for range 2 {
			if done, e := w.End(); done || e != api.ErrState {
				t.Errorf("End: %v, %d", done, e)
			}
			for _, thread := range []int{-1, 0, 1} {
				if e := w.Step(thread); e != api.ErrState {
					t.Errorf("Step: %d", e)
				}
			}
			if len(w.Ready()) != 0 || len(w.Mem()) != 0 || len(w.Races()) != 0 || w.Steps() != 0 || w.Clone() != nil {
				t.Errorf("%v", w)
			}
		}
	}
}
