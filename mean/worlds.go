package mean

import (
	"drawloom/api"
	"drawloom/cells"
)

// newWorld returns a launch of a kernel, which it fits.
func newWorld(p api.Program, k api.Kernel, l api.Launch, m api.Mem) *World {
	funcs, numbers := encodeFuncs(p.Funcs)
	kernel, args := encodeKernel(k, l.Args, numbers)
	w := &World{code: code{funcs, kernel}, grid: l.Grid, cells: cells.New(m, k.Shared, l.Grid)}
	for bid := range l.Grid {
		for tid := range l.Block {
			vars := make([]int32, kernel.vars)
			copy(vars, args)
			w.threads = append(w.threads, thread{frame: frame{at: kernel.first}, bid: bid, tid: tid, vars: vars})
		}
	}
	return w
}

// team returns the threads of a block.
func (w *World) team(bid int) []thread {
	size := len(w.threads) / w.grid
	return w.threads[bid*size : (bid+1)*size]
}

// special returns a special value.
func (w *World) special(t *thread, op int) int32 {
	switch op {
	case api.Tid:
		return int32(t.tid)
	case api.Bid:
		return int32(t.bid)
	case api.Dim:
		return int32(len(w.team(t.bid)))
	}
	return int32(w.grid)
}

// firstReady returns the number of the first ready thread, or -1 if there is none.
func (w *World) firstReady() int {
	if w.spent {
		return -1
	}
	for i := range w.threads {
		if w.threads[i].ready() {
			return i
		}
	}
	return -1
}

// take does steps by turns, and then those of the first ready thread, until the run ends.
func (w *World) take(turns []int) {
	for _, turn := range turns {
		ready := w.Ready()
		if len(ready) == 0 {
			return
		}
		w.step(&w.threads[ready[modulo(turn, len(ready))]])
	}
	for at := w.firstReady(); at >= 0; at = w.firstReady() {
		w.step(&w.threads[at])
	}
}

// modulo returns the remainder of a that is not negative.
func modulo(a, b int) int {
	rest := a % b
	if rest < 0 {
		rest += b
	}
	return rest
}
