package flow_test

import (
	"slices"
	"testing"

	"drawloom/api"
	"drawloom/flow"
	"drawloom/num"
)

// TestExamples runs the chapter's examples.
func TestExamples(t *testing.T) {
	f := api.Flow{Name: "k", Params: []api.Param{{Name: "a", Buffer: true}}, Regs: 2, Nodes: []api.Node{exit(constant(0, 7), store(0, 1, 0))}}
	if r := run(t, f, launch(1, 1, 0), api.Mem{{1, 2}}); !equal(r, api.Run{Mem: api.Mem{{7, 2}}, Steps: 3}) {
		t.Errorf("1: %v", r)
	}
	for rounds, want := range [][2]int32{{10, 20}, {20, 10}, {10, 20}, {20, 10}} {
		swap := graph(
			jump(1, constant(2, 10), constant(3, 20), constant(4, int32(rounds)), constant(5, 1)),
			branch(4, 2, 3, phi(0, 2, 1), phi(1, 3, 0)),
			jump(1, binary(api.Sub, 4, 4, 5)),
			exit(store(0, 9, 0), store(0, 5, 1)),
		)
		if r := run(t, swap, launch(1, 1, 0, 0, 0), api.Mem{{0, 0}}); !equal(r, api.Run{Mem: api.Mem{want[:]}, Steps: 5 + 3*rounds + 1 + 3}) {
			t.Errorf("2: %d: %v, want %d", rounds, r, want)
		}
	}
}

// wordOf returns what a thread stores, from register 0, in the buffer a of 1 cell.
func wordOf(t *testing.T, l api.Launch, instrs ...api.Instr) int32 {
	t.Helper()
	instrs = append(instrs, constant(9, 0), store(0, 9, 0))
	r := run(t, graph(exit(instrs...)), l, api.Mem{{77}, {5, 6}})
	if r.End != api.OK || r.Steps != l.Grid*l.Block*(len(instrs)+1) {
		t.Errorf("%v: %v", instrs, r)
	}
	return r.Mem[0][0]
}

func TestInstrs(t *testing.T) {
	one := launch(1, 1, 0, 1, -9)
	for i, x := range []struct {
		instrs []api.Instr
		want   int32
	}{
		{nil, 0},
		{[]api.Instr{constant(0, least)}, least},
		{[]api.Instr{constant(1, 4), constant(2, 5)}, 0},
		{[]api.Instr{constant(0, 4), constant(0, 5)}, 5},
		{[]api.Instr{constant(8, 3), {Kind: api.ICopy, D: 0, A: 8}, constant(8, 4)}, 3},
		{[]api.Instr{constant(0, 3), {Kind: api.ICopy, D: 0, A: 8}}, 0},
		{[]api.Instr{{Kind: api.IParam, D: 0, Imm: 2}}, -9},
		{[]api.Instr{constant(1, 1), load(0, 1, 1)}, 6},
		{[]api.Instr{constant(0, 1), load(0, 1, 0)}, 6},
		{[]api.Instr{load(0, 0, 1)}, 77},
		{[]api.Instr{constant(0, 9), constant(1, 2), load(0, 1, 1)}, 0},
		{[]api.Instr{constant(0, 9), constant(1, -1), load(0, 1, 1)}, 0},
		{[]api.Instr{constant(0, 9), constant(1, greatest), load(0, 1, 1)}, 0},
		{[]api.Instr{constant(0, 9), constant(1, least), load(0, 1, 1)}, 0},
		{[]api.Instr{constant(0, 9), load(0, 7, 1)}, 0}, // a shared array
		{[]api.Instr{constant(1, 4), constant(2, 9), store(7, 1, 2), load(0, 7, 1)}, 9},
		{[]api.Instr{constant(1, 5), constant(2, 9), store(7, 1, 2), load(0, 7, 1)}, 0},
		{[]api.Instr{constant(1, 1), constant(2, 9), store(7, 1, 2), load(0, 6, 1)}, 0},
		{[]api.Instr{constant(1, 1), constant(2, 9), store(6, 1, 2), load(0, 7, 1)}, 0},
		{[]api.Instr{constant(1, 1), constant(2, 9), store(6, 1, 2), atomic(api.Add, 6, 1, 1), load(0, 6, 1)}, 10},
		{[]api.Instr{constant(1, 3), atomic(api.Add, 6, 1, 1), load(0, 6, 1)}, 0},
		{[]api.Instr{constant(1, 1), constant(2, 12), atomic(api.Xor, 1, 1, 2), load(0, 1, 1)}, 10},
		{[]api.Instr{constant(1, -1), store(0, 1, 1), atomic(api.Add, 0, 1, 1), load(0, 0, 2)}, 77},
		{[]api.Instr{constant(1, 3), collect(api.Add, 0, 1, 0)}, 3},
		{[]api.Instr{constant(0, 3), collect(api.Min, 0, 0, 400)}, 3},
		{[]api.Instr{constant(0, 3), barrier(0), barrier(0)}, 3},
	} {
		if got := wordOf(t, one, x.instrs...); got != x.want {
			t.Errorf("%d: %v: %d, want %d", i, x.instrs, got, x.want)
		}
	}
}

func TestOperators(t *testing.T) {
	words := []int32{least, -1, 0, 1, 7, 33, greatest}
	l := launch(1, 1, 0, 0, 0)
	for _, a := range words {
		for op := range api.Unaries {
			want, _ := num.Unary(op, a)
			if got := wordOf(t, l, constant(1, a), api.Instr{Kind: api.IUnary, Op: op, A: 1}); got != want {
				t.Errorf("%d of %d: %d, want %d", op, a, got, want)
			}
		}
		for _, b := range words {
			for op := range api.Binaries {
				want, _ := num.Binary(op, a, b)
				if got := wordOf(t, l, constant(1, a), constant(2, b), binary(op, 0, 1, 2)); got != want {
					t.Errorf("%d %d %d: %d, want %d", a, op, b, got, want)
				}
				if !slices.Contains(folds, op) {
					continue
				}
				if got := wordOf(t, l, constant(1, a), constant(2, b), store(6, 3, 1), atomic(op, 6, 3, 2), load(0, 6, 3)); got != want {
					t.Errorf("atomic %d %d %d: %d, want %d", a, op, b, got, want)
				}
			}
		}
	}
}

// TestSpecials checks what each thread of a launch knows of itself.
func TestSpecials(t *testing.T) {
	f := graph(exit(
		special(0, api.Bid), special(1, api.Dim), special(2, api.Tid), special(3, api.Grid),
		binary(api.Mul, 4, 0, 1), binary(api.Add, 4, 4, 2), // bid * dim + tid
		binary(api.Mul, 5, 4, 1), binary(api.Add, 5, 5, 3), // a digit each, dim being 10
		store(0, 4, 5),
	))
	r := run(t, f, launch(3, 10, 0, 0, 0), api.Mem{cells(30)})
	for i, word := range r.Mem[0] {
		if word != int32(10*i+3) {
			t.Errorf("%d: %d", i, word)
		}
	}
}

// TestArrays runs a flow graph with as many arrays as there may be, into each of which it stores, and then copies the word of each one, and 2, into the next one.
func TestArrays(t *testing.T) {
	f := api.Flow{Name: "k", Shared: arrays("p", "q", "r", "s"), Regs: 3}
	l, m := launch(1, 1), api.Mem{}
	var stores, copies []api.Instr
	for i := range 10 {
		stores = append(stores, constant(1, int32(10+i)), store(int32(i), 0, 1))
		if i < 9 {
			copies = append(copies, load(1, int32(8-i), 0), constant(2, 2), binary(api.Add, 1, 1, 2), store(int32(9-i), 0, 1))
		}
		if i < 6 {
			f.Params = append(f.Params, api.Param{Name: string(rune('a' + i)), Buffer: true})
			l.Args, m = append(l.Args, int32((i+2)%6)), append(m, cells(1))
		}
	}
	f.Nodes = []api.Node{exit(stores...)}
	if r := run(t, f, l, m); !isFree(r) || !sameMem(r.Mem, api.Mem{{14}, {15}, {10}, {11}, {12}, {13}}) {
		t.Errorf("%v", r)
	}
	f.Nodes = []api.Node{exit(slices.Concat(stores, copies)...)}
	if r := run(t, f, l, m); !isFree(r) || !sameMem(r.Mem, api.Mem{{15}, {16}, {10}, {12}, {13}, {14}}) {
		t.Errorf("%v", r)
	}
	for i := range 4 { // from the shared array into the last buffer
		f.Nodes = []api.Node{exit(slices.Concat(stores, copies, []api.Instr{load(1, int32(6+i), 0), store(5, 0, 1)})...)}
		if r := run(t, f, l, m); !isFree(r) || r.Mem[1][0] != int32(17+i) {
			t.Errorf("%d: %v", i, r)
		}
	}
}

// TestRegistersApart checks that each thread has its own registers, and each block its own shared arrays.
func TestRegistersApart(t *testing.T) {
	f := graph(exit(
		special(1, api.Tid), special(2, api.Bid), constant(3, 1), atomic(api.Add, 6, 0, 3), binary(api.Add, 4, 4, 3),
		barrier(0), load(5, 6, 0), store(0, 2, 5), atomic(api.Add, 1, 1, 4),
	))
	r := run(t, f, launch(2, 3, 0, 1, 0), api.Mem{cells(3), cells(3)}, 1, 2, 3, 4, 5, 0, -1, -2, -3)
	if !sameMem(r.Mem, api.Mem{{3, 3, 0}, {2, 2, 2}}) {
		t.Errorf("%v", r)
	}
}

// TestEnds checks which way a Branch leads.
func TestEnds(t *testing.T) {
	for word, want := range map[int32]int32{0: 2, 1: 1, -1: 1, least: 1, greatest: 1} {
		f := graph(branch(3, 1, 2, constant(3, word)), jump(3, constant(0, 1)), jump(3, constant(0, 2)), exit(store(0, 9, 0)))
		if r := run(t, f, launch(1, 1, 0, 0, 0), api.Mem{{0}}); !equal(r, api.Run{Mem: api.Mem{{want}}, Steps: 6}) {
			t.Errorf("%d: %v", word, r)
		}
	}
}

// TestPhis checks which of its Args an IPhi takes, and when.
func TestPhis(t *testing.T) {
	set := func(word int32) []api.Instr { return []api.Instr{constant(1, word)} }
	for i, x := range []struct {
		f     api.Flow
		want  []int32 // for n = 0, 1, ..
		steps int
	}{
		// by the number of the predecessor in the rising list, not by its number in the flow graph
		{graph(branch(8, 4, 2, param(8)), exit(phi(0, 5, 6), store(0, 9, 0)), jump(3), jump(1, constant(5, 7)), jump(5), jump(1, constant(6, 8))), []int32{7, 8}, 7},
		// a Branch whose ways lead to the same node counts once
		{graph(branch(8, 1, 1, param(8), constant(2, 4)), exit(phi(0, 2), store(0, 9, 0))), []int32{4, 4}, 5},
		{graph(branch(8, 1, 2, param(8), constant(2, 4)), branch(8, 2, 2, constant(3, 5)), exit(phi(0, 2, 3), store(0, 9, 0))), []int32{4, 5}, -1},
		// the word is that at the end of the predecessor
		{graph(jump(1, constant(1, 3)), jump(2, phi(2, 1), constant(1, 5)), exit(phi(0, 2), store(0, 9, 0))), []int32{3}, 6},
		{graph(jump(1, constant(1, 3)), jump(2, phi(2, 1), constant(1, 5)), exit(phi(0, 1), store(0, 9, 0))), []int32{5}, 6},
		// all at once: each one the word that the one before it had
		{graph(jump(1, constant(1, 1), constant(2, 2), constant(3, 3)), exit(phi(1, 2), phi(2, 3), phi(3, 1), phi(0, 3), store(0, 9, 0))), []int32{3}, 6},
		{graph(jump(1, constant(1, 1), constant(2, 2), constant(3, 3)), jump(2, phi(1, 2), phi(2, 3), phi(3, 1)), exit(phi(0, 3), store(0, 9, 0))), []int32{1}, 7},
		{graph(jump(1, constant(1, 1), constant(2, 2), constant(3, 3)), jump(2, phi(1, 2), phi(2, 3), phi(3, 1)), exit(phi(0, 2), store(0, 9, 0))), []int32{3}, 7},
		// before the condition of a Branch of the same node
		{graph(jump(1, constant(1, 1)), branch(2, 2, 3, phi(2, 1)), exit(constant(0, 6), store(0, 9, 0)), exit()), []int32{6}, 6},
		// an IPhi that no predecessor has assigned
		{graph(jump(1, constant(0, 4)), exit(phi(0, 5), store(0, 9, 0))), []int32{0}, 4},
		// a loop: the way into it and the way around it
		{graph(jump(1, param(8), constant(2, 1), constant(3, 4)), branch(4, 2, 3, phi(4, 8, 5), phi(0, 3, 6)), jump(1, binary(api.Sub, 5, 4, 2), binary(api.Add, 6, 0, 0)), exit(store(0, 9, 0))), []int32{4, 8, 16, 32}, -1},
		{graph(jump(1, set(3)...), branch(9, 1, 2, phi(1, 1, 0)), exit(phi(0, 1), store(0, 9, 0))), []int32{3}, 5},
	} {
		for n, want := range x.want {
			r := run(t, x.f, launch(1, 1, 0, 0, int32(n)), api.Mem{{-1}})
			if r.End != api.OK || r.Mem[0][0] != want || x.steps >= 0 && r.Steps != x.steps {
				t.Errorf("%d: %d: %v, want %d, %d steps", i, n, r, want, x.steps)
			}
		}
	}
}

// param returns an instruction that reads n.
func param(d int) api.Instr { return api.Instr{Kind: api.IParam, D: d, Imm: 2} }

// TestRunErrors checks which arguments fit.
func TestRunErrors(t *testing.T) {
	good := graph(exit())
	l := launch(1, 1, 0, 1, 5)
	m := api.Mem{{1}, {2}}
	bad := graph(exit(constant(10, 0)))
	name := l
	name.Kernel = "a"
	none := l
	none.Kernel = ""
	for i, x := range []struct {
		f    api.Flow
		l    api.Launch
		m    api.Mem
		most int
		want api.Errno
	}{
		{good, l, m, 1, api.OK},
		{good, l, m, 1000000, api.OK},
		{good, l, m, 0, api.ErrArg},
		{good, l, m, -1, api.ErrArg},
		{good, l, m, 1000001, api.ErrArg},
		{good, l, m, greatest << 20, api.ErrArg},
		{bad, l, m, 1, api.ErrForm},
		{bad, name, nil, 0, api.ErrForm},
		{api.Flow{}, l, m, 1, api.ErrForm},
		{good, name, m, 1, api.ErrArg},
		{good, none, m, 1, api.ErrArg},
		{good, api.Launch{}, m, 1, api.ErrArg},
		{good, launch(0, 1, 0, 1, 5), m, 1, api.ErrArg},
		{good, launch(-1, 1, 0, 1, 5), m, 1, api.ErrArg},
		{good, launch(8, 1, 0, 1, 5), m, 1, api.OK},
		{good, launch(9, 1, 0, 1, 5), m, 1, api.ErrArg},
		{good, launch(1, 0, 0, 1, 5), m, 1, api.ErrArg},
		{good, launch(1, 32, 0, 1, 5), m, 1, api.OK},
		{good, launch(1, 33, 0, 1, 5), m, 1, api.ErrArg},
		{good, launch(1, 1, 0, 1), m, 1, api.ErrArg},
		{good, launch(1, 1), m, 1, api.ErrArg},
		{good, launch(1, 1, 0, 1, 5, 6), m, 1, api.ErrArg},
		{good, launch(1, 1, 0, 2, 5), m, 1, api.ErrArg},
		{good, launch(1, 1, -1, 1, 5), m, 1, api.ErrArg},
		{good, launch(1, 1, 1, 1, least), m, 1, api.OK},
		{good, l, m[:1], 1, api.ErrArg},
		{good, l, nil, 1, api.ErrArg},
		{good, l, make(api.Mem, 6), 1, api.OK},
		{good, l, make(api.Mem, 7), 1, api.ErrArg},
		{good, l, api.Mem{{1}, cells(256)}, 1, api.OK},
		{good, l, api.Mem{{1}, cells(257)}, 1, api.ErrArg},
		{good, l, api.Mem{{1}, {2}, cells(257)}, 1, api.ErrArg},
		{api.Flow{Name: "x", Nodes: []api.Node{exit()}}, api.Launch{Kernel: "x", Grid: 1, Block: 1}, nil, 1, api.OK},
		{api.Flow{Name: "x", Nodes: []api.Node{exit()}}, api.Launch{Kernel: "x", Grid: 1, Block: 1, Args: []int32{}}, api.Mem{}, 1, api.OK},
	} {
		r, e := flow.Run(x.f, x.l, x.m, nil, x.most)
		if e != x.want || e != api.OK && !zero(r) {
			t.Errorf("%d: %v, %d, want %d", i, r, e, x.want)
		}
		if e == api.OK && !equal(r, api.Run{Mem: x.m, Steps: x.l.Grid * x.l.Block}) {
			t.Errorf("%d: %v", i, r)
		}
	}
}

// TestRunMemory checks that Run changes no argument, and that its result is new memory.
func TestRunMemory(t *testing.T) {
	madeRuns(t, 300, func(m *maker, x madeRun) {
		f, l, mem, turns := copyFlow(x.f), x.l, api.Mem{}, slices.Clone(x.turns)
		l.Args = slices.Clone(l.Args)
		for _, buffer := range x.m {
			mem = append(mem, slices.Clone(buffer))
		}
		runMost(t, f, l, mem, x.most, turns...)
		if !sameFlow(f, x.f) || !slices.Equal(l.Args, x.l.Args) || !sameMem(mem, x.m) || !slices.Equal(turns, x.turns) {
			t.Fatalf("%v has changed: %v, %v, %v, %v", x, f, l, mem, turns)
		}
		r := runMost(t, f, l, mem, x.most, turns...)
		for i := range r.Mem {
			for j := range r.Mem[i] {
				mem[i][j] = 1234567
			}
		}
		if !equal(r, x.r) {
			t.Fatalf("%v: the result shares memory with an argument", x)
		}
		for i := range r.Mem {
			for j := range r.Mem[i] {
				r.Mem[i][j] = -7654321
			}
			_ = append(r.Mem[i], 5)
			for j := range r.Mem[i] {
				if r.Mem[i][j] != -7654321 {
					t.Fatalf("%v: buffers of the result share memory", x)
				}
			}
		}
	})
}

// TestGreatest runs the greatest launch for as long as its threads may.
func TestGreatest(t *testing.T) {
	count := func(rounds int32) api.Flow {
		return graph(jump(1, constant(1, 1), constant(2, rounds)), branch(4, 1, 2, binary(api.Add, 3, 3, 1), binary(api.Lt, 4, 3, 2)), exit(atomic(api.Add, 0, 9, 3)))
	}
	r := runMost(t, count(20000), launch(8, 32, 0, 0, 0), api.Mem{{0}}, 60005)
	if !equal(r, api.Run{Mem: api.Mem{{256 * 20000}}, Steps: 256 * 60005}) {
		t.Errorf("%v", r)
	}
	r = runMost(t, count(20000), launch(8, 32, 0, 0, 0), api.Mem{{0}}, 60004)
	if !equal(r, api.Run{End: api.ErrFuel, Mem: api.Mem{{20000}}, Steps: 60004}) {
		t.Errorf("%v", r)
	}
	r = runMost(t, count(333331), launch(1, 1, 0, 0, 0), api.Mem{{0}}, 1000000)
	if !equal(r, api.Run{Mem: api.Mem{{333331}}, Steps: 999998}) {
		t.Errorf("%v", r)
	}
	r = runMost(t, count(333332), launch(1, 1, 0, 0, 0), api.Mem{{0}}, 1000000)
	if !equal(r, api.Run{End: api.ErrFuel, Mem: api.Mem{{333332}}, Steps: 1000000}) {
		t.Errorf("%v", r)
	}
}

// TestRoom runs a flow graph of the greatest size with as many registers as there may be.
func TestRoom(t *testing.T) {
	f := graph()
	f.Regs = 2000
	var l []api.Instr
	for i := range 1998 {
		l = append(l, constant(i+1, int32(i)))
	}
	f.Nodes = []api.Node{exit(append(l, store(0, 1, 1998))...)}
	r := run(t, f, launch(8, 32, 0, 0, 0), api.Mem{cells(1)})
	if r.End != api.OK || r.Mem[0][0] != 1997 || r.Steps != 256*2000 {
		t.Errorf("%v", r)
	}
}
