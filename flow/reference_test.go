package flow_test

import (
	"iter"
	"slices"

	"drawloom/api"
	"drawloom/num"
)

// The meaning of flow graphs once more, without the program's way: each thread is a coroutine that walks through the nodes and stops before each step and at each barrier; all accesses are written down and compared.

// refThread is a thread. It waits at an instruction, or nowhere.
type refThread struct {
	world    *refWorld
	bid, tid int
	regs     []int32
	steps    int
	waits    *api.Instr
	taken    int32 // by an ICollect
	ended    bool
	goOn     func() (struct{}, bool)
	stop     func()
	yield    func(struct{}) bool
}

// refWorld is a launch.
type refWorld struct {
	f       api.Flow
	l       api.Launch
	most    int
	mem     api.Mem
	shared  [][][]int32 // of each block
	phases  []int
	threads []*refThread
	log     []api.Event // each one once
	races   []api.Race
	spent   bool
	mixed   int // barriers that threads passed by different instructions
	passed  int
}

// What is recovered: a thread has no steps left, or is not needed any more.
type refSpent struct{}
type refStopped struct{}

// refRun performs a launch that fits.
func refRun(f api.Flow, l api.Launch, m api.Mem, turns []int, most int) (api.Run, *refWorld) {
	w := newRefWorld(f, l, m, most)
	defer func() {
		for _, t := range w.threads {
			t.stop()
		}
	}()
	for k := 0; ; k++ {
		var ready []*refThread
		for _, t := range w.threads {
			if !w.spent && t.waits == nil && !t.ended {
				ready = append(ready, t)
			}
		}
		if len(ready) == 0 {
			return w.result(), w
		}
		at := 0
		if k < len(turns) {
			at = (turns[k]%len(ready) + len(ready)) % len(ready)
		}
		w.step(ready[at])
	}
}

func newRefWorld(f api.Flow, l api.Launch, m api.Mem, most int) *refWorld {
	w := &refWorld{f: f, l: l, most: most, phases: make([]int, l.Grid)}
	for _, buffer := range m {
		w.mem = append(w.mem, slices.Clone(buffer))
	}
	for bid := range l.Grid {
		var arrays [][]int32
		for _, a := range f.Shared {
			arrays = append(arrays, make([]int32, a.Size))
		}
		w.shared = append(w.shared, arrays)
		for tid := range l.Block {
			t := &refThread{world: w, bid: bid, tid: tid, regs: make([]int32, f.Regs)}
			w.threads = append(w.threads, t)
			t.goOn, t.stop = iter.Pull(func(yield func(struct{}) bool) {
				defer t.catch()
				t.yield = yield
				t.live()
			})
			t.goOn() // up to the first step
		}
	}
	return w
}

func (w *refWorld) result() api.Run {
	r := api.Run{Mem: w.mem, Races: w.races}
	for _, t := range w.threads {
		r.Steps += t.steps
		if !t.ended {
			r.End = api.ErrStuck
		}
	}
	if w.spent {
		r.End = api.ErrFuel
	}
	return r
}

// step lets a thread do a step, and its block pass a barrier if it may.
func (w *refWorld) step(t *refThread) {
	t.goOn()
	var team []*refThread
	for _, other := range w.threads {
		if other.bid == t.bid {
			team = append(team, other)
		}
	}
	for _, other := range team {
		if t.waits == nil || other.waits == nil || other.waits.Imm != t.waits.Imm {
			return
		}
	}
	w.phases[t.bid]++
	w.passed++
	if slices.ContainsFunc(team, func(other *refThread) bool { return other.waits.Kind != t.waits.Kind || other.waits.Op != t.waits.Op }) {
		w.mixed++
	}
	for _, one := range team {
		if one.waits.Kind == api.ICollect {
			one.taken, _ = num.Neutral(one.waits.Op)
			for _, other := range team {
				given, _ := num.Neutral(one.waits.Op)
				if other.waits.Kind == api.ICollect && other.waits.Op == one.waits.Op {
					given = other.regs[other.waits.A]
				}
				one.taken, _ = num.Binary(one.waits.Op, one.taken, given)
			}
		}
	}
	for _, one := range team {
		one.waits = nil
		one.goOn()
	}
}

// catch ends a thread that is not needed any more, or ends the run.
func (t *refThread) catch() {
	switch what := recover().(type) {
	case nil, refStopped:
	case refSpent:
		t.world.spent = true
	default:
		panic(what)
	}
}

// pause lets other threads do steps.
func (t *refThread) pause() {
	if !t.yield(struct{}{}) {
		panic(refStopped{})
	}
}

// begin begins a step when it is this thread's turn.
func (t *refThread) begin() {
	t.pause()
	if t.steps == t.world.most {
		panic(refSpent{})
	}
	t.steps++
}

// live executes the nodes, one after the other.
func (t *refThread) live() {
	from, at := -1, 0
	for {
		n := t.world.f.Nodes[at]
		before := slices.Clone(t.regs)
		for _, x := range n.Instrs {
			if x.Kind == api.IPhi {
				t.regs[x.D] = before[x.Args[slices.Index(refPredecessors(t.world.f, at), from)]]
				continue
			}
			t.begin()
			t.instr(&x)
		}
		t.begin()
		from = at
		switch {
		case n.End == api.Exit:
			t.ended = true
			return
		case n.End == api.Branch && t.regs[n.A] == 0:
			at = n.Else
		default:
			at = n.To
		}
	}
}

func (t *refThread) instr(x *api.Instr) {
	a, b := t.regs0(x.A), t.regs0(x.B)
	switch x.Kind {
	case api.IConst:
		t.regs[x.D] = x.Imm
	case api.ICopy:
		t.regs[x.D] = a
	case api.IUnary:
		t.regs[x.D], _ = num.Unary(x.Op, a)
	case api.IBinary:
		t.regs[x.D], _ = num.Binary(x.Op, a, b)
	case api.ISpecial:
		t.regs[x.D] = []int32{int32(t.tid), int32(t.bid), int32(t.world.l.Block), int32(t.world.l.Grid)}[x.Op]
	case api.IParam:
		t.regs[x.D] = t.world.l.Args[x.Imm]
	case api.ILoad:
		word := int32(0)
		if cell := t.cell(x, 0); cell != nil {
			word = *cell
		}
		t.regs[x.D] = word
	case api.IStore:
		if cell := t.cell(x, 1); cell != nil {
			*cell = b
		}
	case api.IAtomic:
		if cell := t.cell(x, 2+x.Op); cell != nil {
			*cell, _ = num.Binary(x.Op, *cell, b)
		}
	case api.IBarrier, api.ICollect:
		t.waits = x
		t.pause()
		if x.Kind == api.ICollect {
			t.regs[x.D] = t.taken
		}
	}
}

// regs0 returns the word of a register, or 0 if there are no registers.
func (t *refThread) regs0(r int) int32 {
	if len(t.regs) == 0 {
		return 0
	}
	return t.regs[r]
}

// cell returns the cell that an instruction accesses, or nil if it is outside of its array.
func (t *refThread) cell(x *api.Instr, kind int) *int32 {
	w, index := t.world, int(t.regs[x.A])
	space, array := -1-(int(x.Imm)-6), []int32(nil)
	if x.Imm >= 6 {
		array = w.shared[t.bid][x.Imm-6]
	} else {
		space = int(w.l.Args[x.Imm])
		array = w.mem[space]
	}
	if index < 0 || index >= len(array) {
		return nil
	}
	e := api.Event{Access: api.Access{Space: space, Block: t.bid, Cell: index, Thread: t.tid, Kind: kind}, Phase: w.phases[t.bid]}
	if !slices.Contains(w.log, e) { // Otherwise it is in a race with nothing with which that one is not.
		w.report(e)
		w.log = append(w.log, e)
	}
	return &array[index]
}

// report looks for the race that is to be reported of an access.
func (w *refWorld) report(e api.Event) {
	if slices.ContainsFunc(w.races, func(r api.Race) bool { return sameCell(r.A, e.Access) }) {
		return
	}
	for _, earlier := range w.log {
		if isRace(earlier, e) {
			w.races = append(w.races, api.Race{A: earlier.Access, B: e.Access})
			return
		}
	}
}

func sameCell(a, b api.Access) bool {
	return a.Space == b.Space && a.Cell == b.Cell && (a.Space >= 0 || a.Block == b.Block)
}

// isRace is DOC.md's definition of a race.
func isRace(a, b api.Event) bool {
	x, y := a.Access, b.Access
	sameThread := x.Block == y.Block && x.Thread == y.Thread
	ordered := x.Block == y.Block && a.Phase != b.Phase
	bothLoads := x.Kind == 0 && y.Kind == 0
	sameAtomics := x.Kind >= 2 && x.Kind == y.Kind
	return sameCell(x, y) && !sameThread && !ordered && !bothLoads && !sameAtomics
}
