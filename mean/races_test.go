package mean_test

import (
	"slices"
	"testing"

	"drawloom/api"
	"drawloom/mean"
)

// The kinds of accesses.
const (
	load  = 0
	store = 1
	adds  = 2 + api.Add
	maxes = 2 + api.Max
)

// access returns an access.
func access(space, block, cell, thread, kind int) api.Access {
	return api.Access{Space: space, Block: block, Cell: cell, Thread: thread, Kind: kind}
}

// inBlock returns a race of threads of block 0.
func inBlock(space, cell, a, kindA, b, kindB int) api.Race {
	return api.Race{A: access(space, 0, cell, a, kindA), B: access(space, 0, cell, b, kindB)}
}

// TestConflicts checks all pairs of accesses of two threads, in the same block and in two blocks.
func TestConflicts(t *testing.T) {
	kinds := map[int]string{load: "x = a[1];", store: "a[1] = 1;"}
	for op, name := range map[int]string{api.Add: "add", api.Min: "min", api.Max: "max", api.And: "and", api.Or: "or", api.Xor: "xor"} {
		kinds[2+op] = "atomic " + name + " a[1], 1;"
	}
	for a, first := range kinds {
		for b, second := range kinds {
			conflict := !(a == load && b == load || a >= 2 && a == b)
			for block := range 2 {
				s := "kernel k(buffer a) { let x = 0; if tid + bid { " + second + " } else { " + first + " } }"
				r := run(t, s, launch(1+block, 2-block, 0), api.Mem{{0, 0}})
				var want []api.Race
				if conflict {
					want = []api.Race{{A: access(0, 0, 1, 0, a), B: access(0, block, 1, 1-block, b)}}
				}
				if !slices.Equal(r.Races, want) {
					t.Errorf("%q: %v, want %v", s, r.Races, want)
				}
			}
		}
	}
}

// TestRaces checks which races are reported, without turns if there are none.
func TestRaces(t *testing.T) {
	for i, x := range []struct {
		s     string // what a kernel of the buffers a and b does
		dim   int
		turns []int
		want  []api.Race
	}{
		// threads that only touch their own cells, or each other's in another phase
		{"a[tid] = a[tid] + 1; b[0] = b[9];", 1, nil, nil},
		{"a[tid] = 1; a[tid] = a[tid]; atomic add a[tid], 1; atomic max a[tid], 1;", 3, nil, nil},
		{"a[tid] = 1; barrier; let x = a[0] + a[1] + a[2];", 3, []int{2, 1, 0, 1}, nil},
		{"a[tid] = 1; collect c = add 1; a[2 - tid] = c;", 3, []int{2, 1, 0, 1}, nil},
		{"let x = a[0]; barrier; if tid == 1 { a[0] = 1; } barrier; x = a[0];", 3, nil, nil},
		{"let i = 0; while i < 3 { if i == tid { a[0] = a[0] + 1; } barrier; i = i + 1; }", 3, []int{2, 2, 1}, nil},
		{"atomic add a[0], 1; barrier; atomic max a[0], 1; barrier; let x = a[0];", 3, nil, nil},

		// the first conflicting access of another thread
		{"if tid { let x = a[0]; } else { a[0] = 1; }", 3, nil, []api.Race{inBlock(0, 0, 0, store, 1, load)}},
		{"if tid { let x = a[0]; } else { a[0] = 1; }", 3, []int{2, 1, 0, 2, 1, 0}, []api.Race{inBlock(0, 0, 2, load, 0, store)}},
		{"if tid { let x = a[0]; } else { a[0] = 1; }", 3, []int{2, 1, 0, 1, 1, 0}, []api.Race{inBlock(0, 0, 1, load, 0, store)}},
		{"if tid == 2 { a[0] = 1; } else { let x = a[0]; x = a[0]; }", 3, nil, []api.Race{inBlock(0, 0, 0, load, 2, store)}},
		{"if tid == 2 { a[0] = 1; } else { let x = a[0]; x = a[0]; }", 3, []int{1, 1, 1}, []api.Race{inBlock(0, 0, 1, load, 2, store)}},
		{"atomic add a[0], 1; a[0] = 3;", 2, nil, []api.Race{inBlock(0, 0, 0, store, 1, adds)}},
		{"atomic add a[0], 1; a[0] = 3;", 2, []int{0, 1, 1}, []api.Race{inBlock(0, 0, 0, adds, 1, store)}},
		{"atomic add a[0], 1; atomic max a[0], 3;", 2, []int{0, 1, 0}, []api.Race{inBlock(0, 0, 1, adds, 0, maxes)}},
		// the own accesses are no races, and the earliest one may be that of any other thread
		{"if tid == 0 { let x = a[0]; x = a[0]; } else { let x = a[0]; a[0] = x; }", 2, []int{1, 1, 0, 0, 1}, []api.Race{inBlock(0, 0, 0, load, 1, store)}},
		{"let x = a[0]; if tid == 1 { a[0] = 1; }", 4, []int{1, 1, 1, 2}, []api.Race{inBlock(0, 0, 1, store, 3, load)}},
		{"let x = a[0]; if tid == 1 { a[0] = 1; }", 4, []int{1, 2, 0, 0}, []api.Race{inBlock(0, 0, 2, load, 1, store)}},
		{"let x = a[0]; if tid == 1 { a[0] = 1; }", 4, []int{1, 3, 2, 0, 0}, []api.Race{inBlock(0, 0, 3, load, 1, store)}},
		{"let x = a[0]; if tid == 1 { a[0] = 1; }", 4, []int{3, 1, 2, 0, 0}, []api.Race{inBlock(0, 0, 3, load, 1, store)}},

		// one race for each cell, by their order
		{"a[0] = 1; a[0] = 2; let x = a[0];", 3, nil, []api.Race{inBlock(0, 0, 0, store, 1, store)}},
		{"b[2] = 1; a[1] = 2; b[1] = 3;", 2, nil, []api.Race{inBlock(1, 2, 0, store, 1, store), inBlock(0, 1, 0, store, 1, store), inBlock(1, 1, 0, store, 1, store)}},
		{"b[2] = 1; a[1] = 2; b[1] = 3;", 2, []int{0, 0, 0, 1, 0}, []api.Race{inBlock(1, 2, 0, store, 1, store), inBlock(0, 1, 0, store, 1, store), inBlock(1, 1, 0, store, 1, store)}},
		{"if tid { a[2] = 1; a[1] = 1; a[0] = 1; } else { a[0] = 1; a[1] = 1; a[2] = 1; }", 2, []int{0, 1, 0, 1, 0, 1}, []api.Race{inBlock(0, 1, 0, store, 1, store), inBlock(0, 2, 1, store, 0, store), inBlock(0, 0, 0, store, 1, store)}},
		{"a[0] = 1; barrier; a[0] = 1; barrier; a[1] = 1;", 2, nil, []api.Race{inBlock(0, 0, 0, store, 1, store), inBlock(0, 1, 0, store, 1, store)}},

		// phases
		{"if tid { barrier; let x = a[0]; } else { barrier; a[0] = 1; }", 2, nil, nil}, // stuck before
		{"if tid { let x = a[0]; } barrier; if tid == 0 { a[0] = 1; }", 2, nil, nil},
		{"barrier; barrier; if tid { let x = a[0]; } else { a[0] = 1; }", 2, nil, []api.Race{inBlock(0, 0, 0, store, 1, load)}},
		{"let x = a[0]; barrier; if tid < 2 { x = a[0]; } if tid == 2 { a[0] = 2; }", 3, []int{2, 1, 0, 2, 1, 0}, []api.Race{inBlock(0, 0, 0, load, 2, store)}},
		{"let x = a[0]; barrier; if tid < 2 { x = a[0]; } if tid == 2 { a[0] = 2; }", 3, []int{2, 1, 0, 2, 1, 0, 1, 1}, []api.Race{inBlock(0, 0, 1, load, 2, store)}},
		{"if tid == 0 { a[0] = 1; } barrier; if tid == 1 { a[0] = 1; } barrier; if tid > 0 { a[0] = 1; }", 3, nil, []api.Race{inBlock(0, 0, 1, store, 2, store)}},

		// the condition of an if or a while, and the expression of a collect, belong to the phase before
		{"if tid { collect c = add a[0]; } else { collect c = add 1; a[0] = 1; }", 2, nil, nil},
		{"collect c = add a[0]; if tid == 1 { a[0] = c; }", 3, nil, nil},
		{"collect c = add a[tid]; barrier; a[1 - tid] = c;", 2, nil, nil},
		{"if tid == 1 { a[0] = 1; } collect c = add a[0];", 2, nil, []api.Race{inBlock(0, 0, 0, load, 1, store)}},
		{"if tid == 1 { a[0] = 1; } collect c = add a[0];", 2, []int{1, 1}, []api.Race{inBlock(0, 0, 1, store, 0, load)}},
		{"collect c = add a[0]; if tid { collect d = add a[0]; } else { a[0] = 1; collect d = add 0; }", 2, []int{0, 1, 1, 1}, []api.Race{inBlock(0, 0, 1, load, 0, store)}},
		{"let i = 0; while i <= a[0] { barrier; i = i + 1; if tid == 1 { a[0] = 1; } barrier; }", 2, nil, nil},

		// the accesses of a statement are executed in order: kid by kid, the store or atomic operation at the end
		{"if tid { let x = a[2] + a[1] * a[0]; } else { a[0] = 1; a[1] = 1; a[2] = 1; }", 2, nil, []api.Race{inBlock(0, 2, 0, store, 1, load), inBlock(0, 1, 0, store, 1, load), inBlock(0, 0, 0, store, 1, load)}},
		{"if tid { a[a[2]] = a[1]; } else { a[0] = 1; a[1] = 1; a[2] = 0; }", 2, nil, []api.Race{inBlock(0, 2, 0, store, 1, load), inBlock(0, 1, 0, store, 1, load), inBlock(0, 0, 0, store, 1, store)}},
		{"if tid { atomic add a[a[2]], a[1]; } else { a[0] = 1; a[1] = 1; a[2] = 0; }", 2, nil, []api.Race{inBlock(0, 2, 0, store, 1, load), inBlock(0, 1, 0, store, 1, load), inBlock(0, 0, 0, store, 1, adds)}},
		{"if tid { let x = b[a[2]]; } else { b[1] = 1; a[2] = 1; }", 2, nil, []api.Race{inBlock(0, 2, 0, store, 1, load), inBlock(1, 1, 0, store, 1, load)}},
		{"if tid { let x = f(a[2], a[1]); } else { a[1] = 1; a[2] = 1; }", 2, nil, []api.Race{inBlock(0, 2, 0, store, 1, load), inBlock(0, 1, 0, store, 1, load)}},
		{"if tid { let x = 0 && a[2] || 1 || a[1]; } else { a[1] = 1; a[2] = 1; }", 2, nil, []api.Race{inBlock(0, 2, 0, store, 1, load), inBlock(0, 1, 0, store, 1, load)}},
		{"if tid { let x = a[2] > -a[1]; } else { a[1] = 1; a[2] = 1; }", 2, nil, []api.Race{inBlock(0, 1, 0, store, 1, load), inBlock(0, 2, 0, store, 1, load)}},
		{"if tid { if a[2] + a[1] { } } else { a[1] = 1; a[2] = 1; }", 2, nil, []api.Race{inBlock(0, 2, 0, store, 1, load), inBlock(0, 1, 0, store, 1, load)}},
		{"if tid { while a[1] { a[0] = 1; return; } } else { a[0] = 1; a[1] = 1; }", 2, nil, []api.Race{inBlock(0, 1, 0, store, 1, load), inBlock(0, 0, 0, store, 1, store)}},

		// accesses outside of an array are none
		{"a[-1] = 1; a[4] = a[5] + a[-2]; atomic add a[4], 1; b[5] = tid;", 3, nil, nil},
	} {
		s := "func f(x, y) { return x + y; } kernel k(buffer a, buffer b) { " + x.s + " }"
		r := run(t, s, launch(1, x.dim, 0, 1), api.Mem{cells(4), cells(5)}, x.turns...)
		if !slices.Equal(r.Races, x.want) {
			t.Errorf("%d: %q: %v, want %v", i, x.s, r.Races, x.want)
		}
	}
}

// TestRacesBlocks checks races of two blocks, which no barrier orders.
func TestRacesBlocks(t *testing.T) {
	race := func(a, b api.Access) []api.Race { return []api.Race{{A: a, B: b}} }
	for i, x := range []struct {
		s     string // what a kernel of the buffer a does in three blocks of two threads
		turns []int
		want  []api.Race
	}{
		{"a[bid * dim + tid] = 1; barrier; a[bid * dim + 1 - tid] = 1;", nil, nil},
		{"barrier; if bid == 1 && tid { a[0] = 1; } barrier; if bid == 2 { let x = a[0]; }", nil, race(access(0, 1, 0, 1, store), access(0, 2, 0, 0, load))},
		{"if bid == 2 { let x = a[0]; barrier; x = a[0]; } if bid + tid == 0 { a[0] = 1; }", []int{-1, -1, -1, -1, -1, -1, -1}, race(access(0, 2, 0, 1, load), access(0, 0, 0, 0, store))},
		{"if bid == 2 { let x = a[0]; barrier; x = a[0]; barrier; if tid == 0 { a[0] = 1; } }", nil, nil},
		{"if bid == 2 { let x = a[0]; barrier; if tid { a[0] = 1; } } if bid + tid == 0 { a[0] = 1; }", []int{-1, -1, -2, -2, -1, -2, -1, -1}, race(access(0, 2, 0, 1, load), access(0, 0, 0, 0, store))},
		{"atomic add a[0], 1; if bid == 2 { barrier; if tid { a[0] = 2; } }", nil, race(access(0, 0, 0, 0, adds), access(0, 2, 0, 1, store))},
		{"atomic add a[0], 1; if bid == 0 { barrier; if tid { a[0] = 2; } }", nil, race(access(0, 0, 0, 1, store), access(0, 1, 0, 0, adds))},
		// the thread with the same tid of another block is another thread
		{"if tid == 0 && bid < 2 { a[0] = 1; }", nil, race(access(0, 0, 0, 0, store), access(0, 1, 0, 0, store))},
		{"if tid == 0 { let x = a[0]; if bid == 2 { a[0] = 1; } }", nil, race(access(0, 0, 0, 0, load), access(0, 2, 0, 0, store))},
		// and shared arrays of different blocks are different cells
		{"if tid == 0 { s[0] = 1; barrier; } else { barrier; let x = s[0]; }", nil, nil},
		{"if tid == 0 { s[0] = bid; }", nil, nil},
		{"if tid == 0 { s[0] = 1; } else { let x = s[0]; }", nil, []api.Race{
			{A: access(-1, 0, 0, 0, store), B: access(-1, 0, 0, 1, load)},
			{A: access(-1, 1, 0, 0, store), B: access(-1, 1, 0, 1, load)},
			{A: access(-1, 2, 0, 0, store), B: access(-1, 2, 0, 1, load)},
		}},
		{"if bid == 1 { r[6] = 1; s[2] = 2; a[1] = 3; }", nil, []api.Race{
			{A: access(-2, 1, 6, 0, store), B: access(-2, 1, 6, 1, store)},
			{A: access(-1, 1, 2, 0, store), B: access(-1, 1, 2, 1, store)},
			{A: access(0, 1, 1, 0, store), B: access(0, 1, 1, 1, store)},
		}},
	} {
		s := "kernel k(buffer a) { shared s[3]; shared r[7]; " + x.s + " }"
		r := run(t, s, launch(3, 2, 0), api.Mem{cells(6)}, x.turns...)
		if !slices.Equal(r.Races, x.want) {
			t.Errorf("%d: %q: %v, want %v", i, x.s, r.Races, x.want)
		}
	}
}

// TestRacesSpaces checks that the cell of an access is that of the buffer in the memory, whichever parameter denotes it.
func TestRacesSpaces(t *testing.T) {
	const s = "kernel k(int n, buffer a, buffer b) { if tid { a[1] = 1; } else { b[1] = 1; } }"
	for _, x := range [][2]int32{{0, 0}, {2, 2}, {0, 1}, {2, 0}} {
		r := run(t, s, launch(1, 2, 5, x[0], x[1]), api.Mem{cells(2), cells(2), cells(2)})
		var want []api.Race
		if x[0] == x[1] {
			want = []api.Race{inBlock(int(x[0]), 1, 0, store, 1, store)}
		}
		if !slices.Equal(r.Races, want) {
			t.Errorf("%d: %v, want %v", x, r.Races, want)
		}
	}
}

// TestLongRaces compares races of threads that access one cell in many phases with those of the second definition. What each thread does in each phase is told by a buffer.
func TestLongRaces(t *testing.T) {
	p := program(t, `kernel k(buffer a, buffer todo, int rounds, int apart) {
		let i = 0;
		while i < rounds {
			let what = todo[(bid * dim + tid) * rounds + i];
			if what == 1 { let x = a[0]; }
			if what == 2 { a[0] = 1; }
			if what == 3 { atomic add a[0], 1; }
			if what == 4 { atomic max a[0], 1; }
			i = i + 1;
			if i % apart == 0 { barrier; }
		}
	}`)
	late, none := 0, 0
	for seed := range 2500 {
		m := newMaker(int64(seed))
		grid, dim := 1+m.Intn(3), 1+m.Intn(4)
		rounds := 1 + m.Intn(min(12, 256/grid/dim))
		todo := cells(grid * dim * rounds)
		for i := range todo {
			todo[i] = int32(m.Intn(2) * (1 + 2*(seed%2)))
		}
		todo[m.Intn(len(todo))] = int32(m.Intn(5)) // one other access, mostly
		l, mem, turns := launch(grid, dim, 0, 1, int32(rounds), int32(1+m.Intn(3))), api.Mem{{0}, todo}, m.turns(500)
		r, e := mean.Run(p, l, mem, turns)
		want, log, _ := refRun(p, l, mem, turns)
		if e != api.OK || !equal(r, want) {
			t.Fatalf("%d: %v, want %v", seed, r, want)
		}
		if len(r.Races) == 0 {
			none++
		} else if slices.ContainsFunc(log, func(e api.Event) bool { return e.Access == r.Races[0].B && e.Phase > 2 }) {
			late++
		}
	}
	if late < 200 || none < 500 {
		t.Errorf("only %d launches with a late race, and %d without races", late, none)
	}
}

// TestManyThreads checks the earliest access of the greatest launch, in which each thread loads from one cell in many phases before one stores to it.
func TestManyThreads(t *testing.T) {
	const s = "kernel k(buffer a) { let i = 0; while i < 300 { let x = a[1]; i = i + 1; barrier; } if bid == 3 && tid == 9 { a[1] = 7; } }"
	r := run(t, s, launch(8, 32, 0), api.Mem{{0, 0}})
	want := api.Run{Mem: api.Mem{{0, 7}}, Races: []api.Race{{A: access(0, 0, 1, 0, load), B: access(0, 3, 1, 9, store)}}, Steps: 256*1203 + 1}
	if !equal(r, want) {
		t.Errorf("%v, want %v", r, want)
	}
	// by these turns the blocks behind it begin
	r = run(t, s, launch(8, 32, 0), api.Mem{{0, 0}}, 255, 255, 255, 200, 200, 200, 1, 1, 1)
	want.Races[0].A = access(0, 7, 1, 31, load)
	if !equal(r, want) {
		t.Errorf("%v, want %v", r, want)
	}
}
