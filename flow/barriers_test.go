package flow_test

import (
	"slices"
	"testing"

	"drawloom/api"
	"drawloom/flow"
)

// ways returns a flow graph in which the threads 0, 1 and 2 of a block of three go different ways, and then store register 0 in cell tid of a.
func ways(zero, one, two []api.Instr) api.Flow {
	return graph(
		branch(8, 2, 1, special(8, api.Tid), constant(7, 2), binary(api.Div, 6, 8, 7)),
		jump(5, zero...),
		branch(6, 4, 3),
		jump(5, one...),
		jump(5, two...),
		exit(store(0, 8, 0)),
	)
}

// TestMeet checks which threads meet, and what they receive.
func TestMeet(t *testing.T) {
	give := func(word int32, op, number int) []api.Instr {
		return []api.Instr{constant(1, word), collect(op, 0, 1, int32(number))}
	}
	plain := func(number int32) []api.Instr { return []api.Instr{constant(0, 50), barrier(number)} }
	for i, x := range []struct {
		zero, one, two []api.Instr
		end            api.Errno
		want           []int32
	}{
		{plain(0), plain(0), plain(0), api.OK, []int32{50, 50, 50}},
		{plain(3), plain(3), plain(4), api.ErrStuck, nil},
		{plain(4), plain(3), plain(3), api.ErrStuck, nil},
		{plain(3), plain(4), plain(3), api.ErrStuck, nil},
		{nil, plain(3), plain(3), api.ErrStuck, nil},
		{plain(3), plain(3), nil, api.ErrStuck, nil},
		{give(5, api.Add, 1), give(6, api.Add, 1), give(-1, api.Add, 1), api.OK, []int32{10, 10, 10}},
		{give(5, api.Add, 1), give(6, api.Add, 2), give(-1, api.Add, 1), api.ErrStuck, nil},
		{give(5, api.Min, 1), give(6, api.Min, 1), plain(1), api.OK, []int32{5, 5, 50}},
		{give(-5, api.Max, 1), plain(1), give(-6, api.Max, 1), api.OK, []int32{-5, 50, -5}},
		{plain(1), give(12, api.And, 1), give(10, api.And, 1), api.OK, []int32{50, 8, 8}},
		{plain(1), plain(1), give(10, api.Or, 1), api.OK, []int32{50, 50, 10}},
		{give(10, api.Or, 1), give(5, api.Xor, 1), give(12, api.Or, 1), api.OK, []int32{14, 5, 14}},
		{give(10, api.Add, 1), give(5, api.Min, 1), give(12, api.Max, 1), api.OK, []int32{10, 5, 12}},
		{give(10, api.Xor, 1), give(9, api.Add, 1), give(12, api.Xor, 1), api.OK, []int32{6, 9, 6}},
		{slices.Concat(plain(1), give(2, api.Add, 2)), slices.Concat(give(3, api.Add, 1), plain(2)), slices.Concat(plain(1), plain(2)), api.OK, []int32{2, 50, 50}},
		{slices.Concat(plain(1), give(2, api.Add, 2)), slices.Concat(plain(2), give(3, api.Add, 1)), slices.Concat(plain(1), plain(2)), api.ErrStuck, nil},
		{slices.Concat(plain(1), plain(1)), slices.Concat(plain(1), plain(1)), plain(1), api.ErrStuck, nil},
		// its own register, in which what it gives is
		{[]api.Instr{constant(0, 7), collect(api.Add, 0, 0, 0)}, []api.Instr{constant(0, 8), collect(api.Add, 0, 0, 0)}, []api.Instr{constant(0, 9), collect(api.Add, 0, 0, 0)}, api.OK, []int32{24, 24, 24}},
		{[]api.Instr{constant(0, 7), collect(api.Max, 1, 0, 0)}, []api.Instr{constant(0, 8), collect(api.Max, 0, 0, 0)}, []api.Instr{constant(0, 9), collect(api.Max, 0, 0, 0)}, api.OK, []int32{7, 9, 9}},
	} {
		f := ways(x.zero, x.one, x.two)
		for _, turns := range [][]int{nil, {2, 2, 2, 2, 2, 2, 2, 1, 1, 1, 1, 1, 1}, {0, 1, 2, 0, 1, 2, 0, 1, 2, 0, 1, 2}} {
			r := run(t, f, launch(1, 3, 0, 0, 0), api.Mem{cells(3)}, turns...)
			if r.End != x.end || x.end == api.OK && !slices.Equal(r.Mem[0], x.want) || len(r.Races) > 0 {
				t.Errorf("%d by %d: %v, want %d, %d", i, turns, r, x.end, x.want)
			}
		}
	}
}

// TestMeetBlocks checks that the threads of a block do not wait for those of another one.
func TestMeetBlocks(t *testing.T) {
	f := graph(
		branch(1, 1, 2, special(1, api.Bid), special(2, api.Tid), special(3, api.Dim), binary(api.Mul, 4, 1, 3), binary(api.Add, 4, 4, 2)),
		jump(2, collect(api.Add, 5, 4, 7)),
		exit(store(0, 4, 5)),
	)
	r := run(t, f, launch(3, 2, 0, 0, 0), api.Mem{cells(6)}, 5, 4, 3, 2, 1, 0)
	if r.End != api.OK || !slices.Equal(r.Mem[0], []int32{0, 0, 5, 5, 9, 9}) {
		t.Errorf("%v", r)
	}
	stuck := graph(branch(1, 1, 2, special(1, api.Bid), special(2, api.Tid)), branch(2, 2, 3), exit(atomic(api.Or, 0, 9, 9)), jump(2, barrier(0)))
	r = run(t, stuck, launch(3, 2, 0, 0, 0), api.Mem{cells(6)})
	if r.End != api.ErrStuck || r.Steps != 2*5+2*6+2*5 {
		t.Errorf("%v", r)
	}
}

// TestWaits checks that waiting is a step, and going on is none.
func TestWaits(t *testing.T) {
	for i, x := range []struct {
		instrs []api.Instr
		steps  int // of each of two threads
	}{
		{[]api.Instr{barrier(0)}, 2},
		{[]api.Instr{barrier(0), barrier(0), collect(api.Add, 1, 1, 0)}, 4},
	} {
		f := graph(exit(x.instrs...))
		l := launch(1, 2, 0, 0, 0)
		m := api.Mem{{}}
		if r := runMost(t, f, l, m, x.steps); r.End != api.OK || r.Steps != 2*x.steps {
			t.Errorf("%d: %v", i, r)
		}
		if r := runMost(t, f, l, m, x.steps-1); r.End != api.ErrFuel {
			t.Errorf("%d: %v", i, r)
		}
	}
	// A thread with no steps left that has to wait ends the run at once, not when the other one is stuck.
	f := graph(branch(1, 1, 2, special(1, api.Tid)), exit(barrier(0)), exit())
	if r := runMost(t, f, launch(1, 2, 0, 0, 0), api.Mem{{}}, 3); r.End != api.ErrStuck || r.Steps != 6 {
		t.Errorf("%v", r)
	}
	f.Nodes[1] = exit(barrier(0), barrier(1))
	if r := runMost(t, f, launch(1, 2, 0, 0, 0), api.Mem{{}}, 3); r.End != api.ErrStuck || r.Steps != 6 {
		t.Errorf("%v", r)
	}
	f.Nodes[1] = exit(constant(0, 1), barrier(0))
	if r := runMost(t, f, launch(1, 2, 0, 0, 0), api.Mem{{}}, 3); r.End != api.ErrFuel || r.Steps != 6 {
		t.Errorf("%v", r)
	}
}

// TestFuel checks that a run may take exactly so many steps of a thread, and that one more has no effect.
func TestFuel(t *testing.T) {
	for i, x := range []struct {
		f    api.Flow
		want []int32 // cell 0 of a when the threads may do 1 step, 2 steps ..
	}{
		{graph(exit(constant(1, 7), store(0, 0, 1))), []int32{0, 7, 7}},
		{graph(exit(constant(1, 7), atomic(api.Add, 0, 0, 1), atomic(api.Add, 0, 0, 1))), []int32{0, 7, 14, 14}},
		{graph(jump(1, constant(1, 7)), exit(store(0, 0, 1))), []int32{0, 0, 7, 7}},
		{graph(branch(1, 1, 2, constant(1, 7)), exit(phi(1, 1), phi(2, 1), store(0, 0, 2)), exit()), []int32{0, 0, 7, 7}},
		{graph(jump(1), jump(2), jump(3), exit()), []int32{0, 0, 0, 0}},
		{graph(exit()), []int32{0}},
	} {
		for most := 1; most <= len(x.want)+1; most++ {
			r := runMost(t, x.f, launch(1, 1, 0, 0, 0), api.Mem{{0}}, most)
			want := api.Run{Mem: api.Mem{{x.want[min(most, len(x.want))-1]}}, Steps: min(most, len(x.want))}
			if most < len(x.want) {
				want.End = api.ErrFuel
			}
			if !equal(r, want) {
				t.Errorf("%d, %d: %v, want %v", i, most, r, want)
			}
		}
	}
}

// TestTurnsOrder checks which thread does which step.
func TestTurnsOrder(t *testing.T) {
	// each thread multiplies cell 0 by 10 and adds its number, from 1 on, by four steps; its Exit is another one
	f := graph(exit(special(1, api.Bid), special(2, api.Dim), special(3, api.Tid), binary(api.Mul, 1, 1, 2), binary(api.Add, 1, 1, 3), constant(4, 1), binary(api.Add, 1, 1, 4), constant(4, 10),
		load(2, 0, 0), binary(api.Mul, 2, 2, 4), binary(api.Add, 2, 2, 1), store(0, 0, 2)))
	const before = 8
	l := launch(2, 2, 0, 0, 0)
	var turns []int
	for range before {
		turns = append(turns, 0, 1, 2, 3)
	}
	for i, x := range []struct {
		turns []int
		want  int32
	}{
		{nil, 1234},
		{[]int{0, 0, 0, 0, 0, 0, 0, 0, 0, 0, 0, 0, 0, 0, 0, 0, 0, 0, 0, 0}, 1234},
		{[]int{3, 3, 3, 3}, 4123},
		{[]int{-1, -1, -1, -1}, 4123},
		{[]int{3, 3, 3, 3, 2, 2, 2, 2, 1, 1, 1, 1}, 4321},
		{[]int{-1, -1, -1, -1, -1, -1, -1, -1, -1, -1, -1, -1, -1, -1, -1}, 4321},
		{[]int{-1, -1, -1, -1, -1, -1, -1, -1, -1, -1, -1, -1}, 432}, // 1 loads and multiplies before 0 comes
		{[]int{1, 1, 1, 1, 1, 1, 1, 1, 1, 1, 1, 1, 1, 1, 1}, 2341},   // of those that are left
		{[]int{1, 1, 1, 1, 1, 1, 1, 1, 1, 1, 3, 3, 3, 3, 3}, 2341},
		{[]int{7, 11, -5, -1, 5, 5, 5, 5}, 4213},
		{[]int{greatest, greatest, greatest, greatest}, 4123},
		{[]int{-1 << 63, -1 << 63, 1<<63 - 1, 1<<63 - 1, 1<<63 - 1, 1<<63 - 1}, 123}, // 0 loads before 3 stores
		{[]int{0, 1, 2, 3}, 4},                                                       // all of them load before any of them stores
		{[]int{0, 0, 0, 1, 0, 1, 1, 1}, 234},                                         // 1 loads before 0 stores, and stores later
		{[]int{0, 1, 1, 1, 1, 0, 0, 0}, 134},                                         // 0 loads before 1 stores, and stores later
		{[]int{3, 2, 2, 2, 2, 2, 2, 2, 2, 3}, 412},                                   // 3 loads, 2 is over, 3 (now the third one) goes on
	} {
		r := run(t, f, l, api.Mem{{0}}, append(slices.Clone(turns), x.turns...)...)
		if r.End != api.OK || r.Mem[0][0] != x.want {
			t.Errorf("%d: %d: %v, want %d", i, x.turns, r.Mem, x.want)
		}
	}
}

// TestRaces checks pairs of accesses of two threads.
func TestRaces(t *testing.T) {
	touch := func(kind, cell int) []api.Instr {
		instrs := []api.Instr{constant(1, int32(cell)), {Kind: api.ILoad, D: 2, A: 1}, {Kind: api.IStore, A: 1, B: 2}}
		switch kind {
		case 0:
			return []api.Instr{instrs[0], instrs[1]}
		case 1:
			return []api.Instr{instrs[0], instrs[2]}
		}
		return []api.Instr{instrs[0], atomic(kind-2, 0, 1, 2)}
	}
	kinds := []int{0, 1}
	for _, op := range folds {
		kinds = append(kinds, 2+op)
	}
	for _, a := range kinds {
		for _, b := range kinds {
			for cell, inside := range map[int]bool{0: true, 3: true, 4: false, -1: false} {
				f := graph(branch(8, 2, 1, special(8, api.Tid)), exit(touch(a, cell)...), exit(touch(b, cell)...))
				conflict := a != b || a == 1
				var want []api.Race
				if conflict && inside {
					want = []api.Race{{A: api.Access{Space: 1, Cell: cell, Kind: a}, B: api.Access{Space: 1, Cell: cell, Thread: 1, Kind: b}}}
				}
				r := run(t, f, launch(1, 2, 1, 0, 0), api.Mem{{}, cells(4)})
				if r.End != api.OK || !slices.Equal(r.Races, want) {
					t.Errorf("%d, %d in %d: %v, want %v", a, b, cell, r.Races, want)
				}
				// by the other order of the threads
				for i := range want {
					want[i].A.Thread, want[i].B.Thread = 1, 0
					want[i].A.Kind, want[i].B.Kind = b, a
				}
				r = run(t, f, launch(1, 2, 1, 0, 0), api.Mem{{}, cells(4)}, 1, 1, 1, 1, 1, 1)
				if r.End != api.OK || !slices.Equal(r.Races, want) {
					t.Errorf("%d, %d in %d turned: %v, want %v", a, b, cell, r.Races, want)
				}
			}
		}
	}
}

// TestRacesOrdered checks that barriers order the accesses of a block, but not those of different blocks.
func TestRacesOrdered(t *testing.T) {
	for i, x := range []struct {
		instrs []api.Instr // Register 8 is tid, and 7 is 1 - tid.
		races  int         // in one block of two threads, and in two
		apart  int
	}{
		{[]api.Instr{store(0, 8, 9), store(0, 7, 9)}, 2, 2},
		{[]api.Instr{store(0, 8, 9), barrier(0), store(0, 7, 9)}, 0, 2},
		{[]api.Instr{store(0, 8, 9), collect(api.Add, 1, 1, 3), load(1, 0, 7)}, 0, 2},
		{[]api.Instr{barrier(3), store(0, 8, 9), load(1, 0, 7)}, 2, 2},
		{[]api.Instr{load(1, 0, 8), barrier(3), load(1, 0, 7)}, 0, 0},
		{[]api.Instr{atomic(api.Add, 0, 8, 9), barrier(3), atomic(api.Add, 0, 9, 9)}, 0, 0},
		{[]api.Instr{atomic(api.Add, 0, 8, 9), barrier(3), atomic(api.Min, 0, 7, 9)}, 0, 2},
		{[]api.Instr{store(6, 8, 9), store(6, 7, 9)}, 2, 4},
		{[]api.Instr{store(6, 8, 9), barrier(0), store(6, 7, 9)}, 0, 0},
		{[]api.Instr{store(6, 8, 9), store(7, 7, 9)}, 0, 0},
		{[]api.Instr{store(0, 8, 9), store(1, 7, 9)}, 2, 2}, // They denote the same buffer.
	} {
		f := graph(exit(append([]api.Instr{special(8, api.Tid), constant(6, 1), binary(api.Sub, 7, 6, 8)}, x.instrs...)...))
		for grid, want := range []int{x.races, x.apart} {
			r := run(t, f, launch(grid+1, 2, 0, 0, 0), api.Mem{cells(2)})
			if r.End != api.OK || len(r.Races) != want {
				t.Errorf("%d in %d: %v, want %d races", i, grid+1, r, want)
			}
		}
	}
}

// TestRacesSpaces checks how the cells of races are named.
func TestRacesSpaces(t *testing.T) {
	f := graph(exit(special(1, api.Bid), special(2, api.Bid), load(3, 7, 1), store(7, 1, 2), store(1, 1, 2), store(6, 9, 9)))
	r := run(t, f, launch(2, 2, 0, 2, 0), api.Mem{{0}, {0}, {0, 0}})
	access := func(space, bid, cell, tid, kind int) api.Access {
		return api.Access{Space: space, Block: bid, Cell: cell, Thread: tid, Kind: kind}
	}
	want := []api.Race{
		{A: access(-2, 0, 0, 0, 1), B: access(-2, 0, 0, 1, 0)},
		{A: access(2, 0, 0, 0, 1), B: access(2, 0, 0, 1, 1)},
		{A: access(-1, 0, 0, 0, 1), B: access(-1, 0, 0, 1, 1)},
		{A: access(-2, 1, 1, 0, 1), B: access(-2, 1, 1, 1, 0)},
		{A: access(2, 1, 1, 0, 1), B: access(2, 1, 1, 1, 1)},
		{A: access(-1, 1, 0, 0, 1), B: access(-1, 1, 0, 1, 1)},
	}
	if !slices.Equal(r.Races, want) {
		t.Errorf("%v, want %v", r.Races, want)
	}
}

// TestRacesFuel checks that a step that is not done is no access.
func TestRacesFuel(t *testing.T) {
	f := graph(exit(special(1, api.Tid), store(0, 0, 1)))
	if r := runMost(t, f, launch(1, 2, 0, 0, 0), api.Mem{{5}}, 1, 0, 1, 0); !equal(r, api.Run{End: api.ErrFuel, Mem: api.Mem{{5}}, Steps: 2}) {
		t.Errorf("%v", r)
	}
	r, e := flow.Run(f, launch(1, 2, 0, 0, 0), api.Mem{{5}}, []int{0, 1, 1, 0}, 2)
	if e != api.OK || r.End != api.ErrFuel || r.Steps != 4 || len(r.Races) != 1 || r.Mem[0][0] != 0 {
		t.Errorf("%v, %d", r, e)
	}
}
