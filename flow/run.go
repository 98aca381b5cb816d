package flow

import (
	"slices"

	"drawloom/api"
	"drawloom/cells"
	"drawloom/instr"
)

// node is a node of a flow graph with its IPhis apart from its other instructions.
type node struct {
	phis, instrs []api.Instr
	end, a       int
	to, other    edge
}

// edge leads to a node, in whose IPhis the Args with an index belong to it.
type edge struct {
	node, arg int
}

// thread is a thread: it stands before the instruction at of a node, or before its end, or waits there.
type thread struct {
	bid, tid     int
	regs         []int32
	node, at     int
	steps        int
	waits, ended bool
}

func (t *thread) ready() bool { return !t.waits && !t.ended }

// run is a launch of a flow graph.
type run struct {
	nodes   []node
	launch  api.Launch
	most    int
	cells   cells.Cells
	threads []thread // by bid, then by tid
	first   int      // No thread before this one is ready.
	spent   bool     // whether a thread would have done too many steps
	words   []int32  // room for the words of IPhis
}

// newRun returns a launch before its first step.
func newRun(f api.Flow, l api.Launch, m api.Mem, most int) *run {
	r := &run{nodes: newNodes(f.Nodes), launch: l, most: most, cells: cells.New(m, f.Shared, l.Grid)}
	for bid := range l.Grid {
		for tid := range l.Block {
			r.threads = append(r.threads, thread{bid: bid, tid: tid, regs: make([]int32, f.Regs)})
		}
	}
	return r
}

func newNodes(nodes []api.Node) []node {
	before := predecessors(nodes)
	var made []node
	for i, n := range nodes {
		phis := instr.Phis(n.Instrs)
		made = append(made, node{
			phis:   n.Instrs[:phis],
			instrs: n.Instrs[phis:],
			end:    n.End,
			a:      n.A,
			to:     newEdge(before, i, n.To),
			other:  newEdge(before, i, n.Else),
		})
	}
	return made
}

// newEdge returns the edge between two nodes; if there is none, it has no meaning.
func newEdge(before [][]int, from, to int) edge {
	return edge{to, slices.Index(before[to], from)}
}

// result returns what has become of the launch, which has ended.
func (r *run) result() api.Run {
	result := api.Run{Mem: r.cells.Mem(), Races: r.cells.Races()}
	for i := range r.threads {
		result.Steps += r.threads[i].steps
		if !r.threads[i].ended {
			result.End = api.ErrStuck
		}
	}
	if r.spent {
		result.End = api.ErrFuel
	}
	return result
}

// take does steps by turns, and then those of the first ready thread, until the run ends.
func (r *run) take(turns []int) {
	for _, turn := range turns {
		t := r.choose(turn)
		if t == nil {
			return
		}
		r.step(t)
	}
	for t := r.firstReady(); t != nil; t = r.firstReady() {
		r.step(t)
	}
}

// choose returns the ready thread that does the step of a turn, or nil after the end.
func (r *run) choose(turn int) *thread {
	if r.firstReady() == nil {
		return nil
	}
	ready := make([]*thread, 0, len(r.threads))
	for i := range r.threads {
		if t := &r.threads[i]; t.ready() {
			ready = append(ready, t)
		}
	}
	rest := turn % len(ready)
	if rest < 0 {
		rest += len(ready)
	}
	return ready[rest]
}

// firstReady returns the first ready thread, or nil after the end.
func (r *run) firstReady() *thread {
	for ; r.first < len(r.threads) && !r.spent; r.first++ {
		if t := &r.threads[r.first]; t.ready() {
			return t
		}
	}
	return nil
}
