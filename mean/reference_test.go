package mean_test

import (
	"fmt"
	"iter"
	"slices"

	"drawloom/api"
	"drawloom/num"
)

// The chapter once more, without the program's way: each thread is a coroutine that walks through the tree of the kernel with names in scopes, and stops before each statement and at each barrier; all accesses are written down and compared.

// refThread is a thread. It waits at the statement with the path waits, or nowhere.
type refThread struct {
	world    *refWorld
	bid, tid int
	steps    int
	ended    bool
	waits    string
	given    int32
	fold     int
	taken    int32 // by a collect
	goOn     func() (string, bool)
	stop     func()
	yield    func(waits string) bool
}

// refWorld is a launch.
type refWorld struct {
	program api.Program
	kernel  api.Kernel
	launch  api.Launch
	arrays  map[string][][]int32 // the buffer of each block, or its shared array, by name
	spaces  map[string]int
	mem     api.Mem
	threads []*refThread
	phases  []int
	log     []api.Event // each one once
	races   []api.Race
	spent   bool
}

// What is recovered: a thread has no steps left, or is not needed any more.
type refSpent struct{}
type refStopped struct{}

// What a statement leads to.
const (
	goesOn = iota
	breaks
	continues
	returns
)

// refScopes are the variables of a thread or a call.
type refScopes []map[string]*int32

func (s refScopes) find(name string) *int32 {
	for _, scope := range s {
		if word := scope[name]; word != nil {
			return word
		}
	}
	return nil
}

// refRun performs a launch that fits. It also returns all accesses (one of those that are the same), and which thread did each step.
func refRun(p api.Program, l api.Launch, m api.Mem, turns []int) (api.Run, []api.Event, []int) {
	w := newRefWorld(p, l, m)
	defer w.close()
	var done []int
	for k := 0; ; k++ {
		ready := w.ready()
		if len(ready) == 0 {
			break
		}
		at := 0
		if k < len(turns) {
			at = (turns[k]%len(ready) + len(ready)) % len(ready)
		}
		w.step(ready[at])
		done = append(done, ready[at])
	}
	return w.result(), w.log, done
}

func newRefWorld(p api.Program, l api.Launch, m api.Mem) *refWorld {
	at := slices.IndexFunc(p.Kernels, func(k api.Kernel) bool { return k.Name == l.Kernel })
	w := &refWorld{program: p, kernel: p.Kernels[at], launch: l, arrays: map[string][][]int32{}, spaces: map[string]int{}, phases: make([]int, l.Grid)}
	for _, buffer := range m {
		w.mem = append(w.mem, slices.Clone(buffer))
	}
	for bid := range l.Grid {
		for i, x := range w.kernel.Params {
			if x.Buffer {
				w.arrays[x.Name] = append(w.arrays[x.Name], w.mem[l.Args[i]])
				w.spaces[x.Name] = int(l.Args[i])
			}
		}
		for i, a := range w.kernel.Shared {
			w.arrays[a.Name] = append(w.arrays[a.Name], make([]int32, a.Size))
			w.spaces[a.Name] = -1 - i
		}
		for tid := range l.Block {
			w.threads = append(w.threads, &refThread{world: w, bid: bid, tid: tid})
		}
	}
	for _, t := range w.threads {
		t.begin()
	}
	return w
}

// close ends all coroutines.
func (w *refWorld) close() {
	for _, t := range w.threads {
		t.stop()
	}
}

func (t *refThread) begin() {
	scope := map[string]*int32{}
	for i, x := range t.world.kernel.Params {
		if !x.Buffer {
			word := t.world.launch.Args[i]
			scope[x.Name] = &word
		}
	}
	t.goOn, t.stop = iter.Pull(func(yield func(string) bool) {
		defer t.catch()
		t.yield = yield
		t.list(t.world.kernel.Body, refScopes{scope}, "", true)
	})
	t.resume()
}

// catch ends a thread that is not needed any more, or ends the run.
func (t *refThread) catch() {
	switch what := recover().(type) {
	case nil, refStopped:
	case refSpent:
		t.world.spent = true
	default:
		panic(what)
	}
}

// resume lets a thread do what comes before its next statement or the barrier at which it waits.
func (t *refThread) resume() {
	waits, more := t.goOn()
	t.waits, t.ended = waits, !more
}

func (w *refWorld) ready() []int {
	var numbers []int
	for i, t := range w.threads {
		if !w.spent && !t.ended && t.waits == "" {
			numbers = append(numbers, i)
		}
	}
	return numbers
}

func (w *refWorld) end() (bool, api.Errno) {
	switch {
	case w.spent:
		return true, api.ErrFuel
	case len(w.ready()) > 0:
		return false, api.OK
	case slices.ContainsFunc(w.threads, func(t *refThread) bool { return !t.ended }):
		return true, api.ErrStuck
	}
	return true, api.OK
}

func (w *refWorld) result() api.Run {
	_, e := w.end()
	r := api.Run{End: e, Mem: w.mem, Races: w.races}
	for _, t := range w.threads {
		r.Steps += t.steps
	}
	return r
}

func (w *refWorld) step(number int) {
	t, accesses, races := w.threads[number], len(w.log), len(w.races)
	t.resume()
	if w.spent {
		w.log, w.races = w.log[:accesses], w.races[:races]
		return
	}
	var team []*refThread
	for _, other := range w.threads {
		if other.bid == t.bid {
			team = append(team, other)
		}
	}
	if t.waits == "" || slices.ContainsFunc(team, func(other *refThread) bool { return other.waits != t.waits || other.ended }) {
		return
	}
	word, _ := num.Neutral(t.fold)
	for _, other := range team {
		word, _ = num.Binary(t.fold, word, other.given)
	}
	w.phases[t.bid]++
	for _, other := range team {
		other.taken = word
		other.resume()
	}
}

// pause lets other threads do steps.
func (t *refThread) pause(waits string) {
	if !t.yield(waits) {
		panic(refStopped{})
	}
}

func (t *refThread) count() {
	if t.steps == 2000 {
		panic(refSpent{})
	}
	t.steps++
}

// list executes statements; those of a kernel (or a function) are steps of a thread.
func (t *refThread) list(l []api.Stmt, s refScopes, path string, kernel bool) (int, int32) {
	s = append(slices.Clone(s), map[string]*int32{})
	for i, x := range l {
		if kernel {
			t.pause("")
		}
		t.count()
		way, word := t.stmt(x, s, fmt.Sprint(path, "/", i), kernel)
		if way != goesOn {
			return way, word
		}
	}
	return goesOn, 0
}

func (t *refThread) stmt(x api.Stmt, s refScopes, path string, kernel bool) (int, int32) {
	var words []int32
	if x.Kind != api.SWhile {
		for _, e := range x.Exprs {
			words = append(words, t.expr(e, s))
		}
	}
	switch x.Kind {
	case api.SLet:
		s[len(s)-1][x.Name] = &words[0]
	case api.SSet:
		*s.find(x.Name) = words[0]
	case api.SPut, api.SAtomic:
		t.change(x, words)
	case api.SIf:
		if words[0] != 0 {
			return t.list(x.Body, s, path+"then", kernel)
		}
		return t.list(x.Else, s, path+"else", kernel)
	case api.SWhile:
		return t.loop(x, s, path, kernel)
	case api.SBreak:
		return breaks, 0
	case api.SContinue:
		return continues, 0
	case api.SReturn:
		return returns, append(words, 0)[0]
	case api.SBarrier, api.SCollect:
		t.meet(x, append(words, 0)[0], s, path)
	}
	return goesOn, 0
}

func (t *refThread) loop(x api.Stmt, s refScopes, path string, kernel bool) (int, int32) {
	for first := true; ; first = false {
		if kernel && !first {
			t.pause("")
		}
		if !first {
			t.count()
		}
		if t.expr(x.Exprs[0], s) == 0 {
			return goesOn, 0
		}
		switch way, word := t.list(x.Body, s, path, kernel); way {
		case breaks:
			return goesOn, 0
		case returns:
			return way, word
		}
	}
}

func (t *refThread) meet(x api.Stmt, word int32, s refScopes, path string) {
	t.fold, t.given = x.Op, word
	t.pause(path)
	if x.Kind == api.SCollect {
		taken := t.taken
		s[len(s)-1][x.Name] = &taken
	}
}

func (t *refThread) change(x api.Stmt, words []int32) {
	kind := 1
	if x.Kind == api.SAtomic {
		kind = 2 + x.Op
	}
	cell := t.cell(x.Name, words[0], kind)
	if cell == nil {
		return
	}
	if x.Kind == api.SAtomic {
		words[1], _ = num.Binary(x.Op, *cell, words[1])
	}
	*cell = words[1]
}

func (t *refThread) expr(x api.Expr, s refScopes) int32 {
	var words []int32
	for _, kid := range x.Kids {
		words = append(words, t.expr(kid, s))
	}
	switch x.Kind {
	case api.EInt:
		return x.Int
	case api.EName:
		return *s.find(x.Name)
	case api.ESpecial:
		return []int32{int32(t.tid), int32(t.bid), int32(t.world.launch.Block), int32(t.world.launch.Grid)}[x.Op]
	case api.EUnary:
		word, _ := num.Unary(x.Op, words[0])
		return word
	case api.EBinary:
		word, _ := num.Binary(x.Op, words[0], words[1])
		return word
	case api.ELoad:
		if cell := t.cell(x.Name, words[0], 0); cell != nil {
			return *cell
		}
		return 0
	}
	return t.call(x.Name, words)
}

func (t *refThread) call(name string, words []int32) int32 {
	for _, f := range t.world.program.Funcs {
		if f.Name == name {
			scope := map[string]*int32{}
			for i, param := range f.Params {
				scope[param] = &words[i]
			}
			_, word := t.list(f.Body, refScopes{scope}, "", false)
			return word
		}
	}
	panic("no function " + name)
}

// cell returns a cell that is accessed, or nil if it is outside of its array.
func (t *refThread) cell(name string, index int32, kind int) *int32 {
	w := t.world
	array := w.arrays[name][t.bid]
	if index < 0 || int(index) >= len(array) {
		return nil
	}
	e := api.Event{Access: api.Access{Space: w.spaces[name], Block: t.bid, Cell: int(index), Thread: t.tid, Kind: kind}, Phase: w.phases[t.bid]}
	if !slices.Contains(w.log, e) { // Otherwise it is in a race with nothing with which that one is not.
		w.report(e)
		w.log = append(w.log, e)
	}
	return &array[index]
}

// report looks for the race that is to be reported of an access.
func (w *refWorld) report(e api.Event) {
	if slices.ContainsFunc(w.races, func(r api.Race) bool { return sameCell(r.A, e.Access) }) {
		return
	}
	for _, earlier := range w.log {
		if isRace(earlier, e) {
			w.races = append(w.races, api.Race{A: earlier.Access, B: e.Access})
			return
		}
	}
}

func sameCell(a, b api.Access) bool {
	return a.Space == b.Space && a.Cell == b.Cell && (a.Space >= 0 || a.Block == b.Block)
}

// isRace is DOC.md's definition of a race.
func isRace(a, b api.Event) bool {
	x, y := a.Access, b.Access
	sameThread := x.Block == y.Block && x.Thread == y.Thread
	ordered := x.Block == y.Block && a.Phase != b.Phase
	bothLoads := x.Kind == 0 && y.Kind == 0
	sameAtomics := x.Kind >= 2 && x.Kind == y.Kind
	return sameCell(x, y) && !sameThread && !ordered && !bothLoads && !sameAtomics
}
