package flow

import (
	"drawloom/api"
	"drawloom/cells"
	"drawloom/num"
)

// step does a step of a ready thread.
func (r *run) step(t *thread) {
	if t.steps == r.most {
		r.spent = true
		return
	}
	t.steps++
	n := &r.nodes[t.node]
	if t.at == len(n.instrs) {
		r.leave(t, n)
		return
	}
	x := &n.instrs[t.at]
	if meets(x) {
		t.waits = true
		r.meet(t.bid, x.Imm)
		return
	}
	r.execute(t, x)
	t.at++
}

// leave executes the end of the node in which a thread is.
func (r *run) leave(t *thread, n *node) {
	switch {
	case n.end == api.Exit:
		t.ended = true
	case n.end == api.Jump || t.regs[n.a] != 0:
		r.follow(t, n.to)
	default:
		r.follow(t, n.other)
	}
}

// follow lets a thread go on in another node, whose IPhis read all registers before they assign any.
func (r *run) follow(t *thread, e edge) {
	t.node, t.at = e.node, 0
	phis := r.nodes[e.node].phis
	r.words = r.words[:0]
	for i := range phis {
		r.words = append(r.words, t.regs[phis[i].Args[e.arg]])
	}
	for i := range phis {
		t.regs[phis[i].D] = r.words[i]
	}
}

// execute executes an instruction other than an IPhi and those that meet.
func (r *run) execute(t *thread, x *api.Instr) {
	regs := t.regs
	switch x.Kind {
	case api.IConst:
		regs[x.D] = x.Imm
	case api.ICopy:
		regs[x.D] = regs[x.A]
	case api.IUnary:
		regs[x.D], _ = num.Unary(x.Op, regs[x.A])
	case api.IBinary:
		regs[x.D], _ = num.Binary(x.Op, regs[x.A], regs[x.B])
	case api.ISpecial:
		regs[x.D] = r.special(t, x.Op)
	case api.IParam:
		regs[x.D] = r.launch.Args[x.Imm]
	case api.ILoad:
		regs[x.D] = r.load(t, x)
	case api.IStore:
		if word := r.cells.Access(r.access(t, x, cells.Store)); word != nil {
			*word = regs[x.B]
		}
	case api.IAtomic:
		if word := r.cells.Access(r.access(t, x, cells.Atomic+x.Op)); word != nil {
			*word, _ = num.Binary(x.Op, *word, regs[x.B])
		}
	}
}

// special returns a special value.
func (r *run) special(t *thread, op int) int32 {
	switch op {
	case api.Tid:
		return int32(t.tid)
	case api.Bid:
		return int32(t.bid)
	case api.Dim:
		return int32(r.launch.Block)
	}
	return int32(r.launch.Grid)
}

func (r *run) load(t *thread, x *api.Instr) int32 {
	word := r.cells.Access(r.access(t, x, cells.Load))
	if word == nil {
		return 0
	}
	return *word
}

// access returns the access of an instruction to the cell A of its array.
func (r *run) access(t *thread, x *api.Instr, kind int) api.Access {
	space := api.MaxParams - 1 - int(x.Imm) // that of the first shared array is -1, of the next one -2
	if x.Imm < api.MaxParams {
		space = int(r.launch.Args[x.Imm])
	}
	return api.Access{Space: space, Block: t.bid, Cell: int(t.regs[x.A]), Thread: t.tid, Kind: kind}
}
