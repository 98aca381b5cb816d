package flow

import (
	"drawloom/api"
	"drawloom/num"
)

// meets reports whether threads wait at an instruction.
func meets(x *api.Instr) bool { return x.Kind == api.IBarrier || x.Kind == api.ICollect }

// meet lets the threads of a block go on if all of them wait at the same barrier.
func (r *run) meet(bid int, number int32) {
	team := r.threads[bid*r.launch.Block:][:r.launch.Block]
	for i := range team {
		if t := &team[i]; !t.waits || r.waitsAt(t).Imm != number {
			return
		}
	}
	r.cells.Pass(bid)
	r.pass(team)
	r.first = min(r.first, bid*r.launch.Block)
}

// waitsAt returns the instruction at which a thread waits.
func (r *run) waitsAt(t *thread) *api.Instr { return &r.nodes[t.node].instrs[t.at] }

// pass lets threads go on after a barrier.
func (r *run) pass(team []thread) {
	words := r.collect(team)
	for i := range team {
		t := &team[i]
		if x := r.waitsAt(t); x.Kind == api.ICollect {
			t.regs[x.D] = words[x.Op]
		}
		t.waits = false
		t.at++
	}
}

// collect returns for each operator the fold of the words that threads contribute for it.
func (r *run) collect(team []thread) map[int]int32 {
	given := map[int][]int32{}
	for i := range team {
		t := &team[i]
		if x := r.waitsAt(t); x.Kind == api.ICollect {
			given[x.Op] = append(given[x.Op], t.regs[x.A])
		}
	}
	words := map[int]int32{}
	for op, l := range given {
		words[op], _ = num.Fold(op, l)
	}
	return words
}
