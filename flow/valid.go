package flow

import (
	"slices"

	"drawloom/api"
	"drawloom/check"
	"drawloom/instr"
	"drawloom/num"
)

// What the Imm of an instruction is.
const (
	noImm = iota
	anyWord
	integer // the index of an integer parameter
	array   // a buffer or a shared array
	barrier // the number of a barrier
)

// shape is what a kind of instruction has besides registers: operators from 0 to ops - 1, or those that fold; and an Imm.
type shape struct {
	ops   int
	folds bool
	imm   int
}

var shapes = [api.IKinds]shape{
	api.IConst:   {ops: 1, imm: anyWord},
	api.ICopy:    {ops: 1},
	api.IUnary:   {ops: api.Unaries},
	api.IBinary:  {ops: api.Binaries},
	api.ISpecial: {ops: api.Specials},
	api.IParam:   {ops: 1, imm: integer},
	api.ILoad:    {ops: 1, imm: array},
	api.IStore:   {ops: 1, imm: array},
	api.IAtomic:  {folds: true, imm: array},
	api.IBarrier: {ops: 1, imm: barrier},
	api.ICollect: {folds: true, imm: barrier},
	api.IPhi:     {ops: 1},
}

// head returns a program with the kernel of a flow graph, without its statements: it is sound if the head of the flow graph is valid, and the same launches fit it.
func head(f api.Flow) api.Program {
	return api.Program{Kernels: []api.Kernel{{Name: f.Name, Params: f.Params, Shared: f.Shared}}}
}

// validHead reports whether the name, the parameters and the shared arrays of a flow graph are valid.
func validHead(f api.Flow) bool {
	_, e := check.Check(head(f))
	return e == api.OK
}

// withinLimits reports whether a flow graph has neither too few nor too many registers, nodes and instructions.
func withinLimits(f api.Flow) bool {
	if f.Regs < 0 || f.Regs > api.MaxRegs || len(f.Nodes) == 0 || len(f.Nodes) > api.MaxCode {
		return false
	}
	size := len(f.Nodes)
	for _, n := range f.Nodes {
		size += len(n.Instrs)
	}
	return size <= api.MaxCode
}

// validEdges reports whether the ends of nodes lead to nodes other than node 0, and all nodes can be reached.
func validEdges(nodes []api.Node) bool {
	for _, n := range nodes {
		if !validEnd(n, len(nodes)) {
			return false
		}
	}
	return allReached(nodes)
}

// validEnd reports whether the end of one of some nodes is valid, but for A.
func validEnd(n api.Node, nodes int) bool {
	leads := func(to int) bool { return 1 <= to && to < nodes }
	switch n.End {
	case api.Jump:
		return leads(n.To) && n.Else == 0
	case api.Branch:
		return leads(n.To) && leads(n.Else)
	case api.Exit:
		return n.To == 0 && n.Else == 0
	}
	return false
}

// validInstrs reports whether the instructions of a flow graph with valid edges, and the registers of its ends, are valid.
func validInstrs(f api.Flow) bool {
	before := predecessors(f.Nodes)
	for i, n := range f.Nodes {
		fits := func(x api.Instr) bool { return fitsInstr(f, x, len(before[i])) }
		if !all(n.Instrs, fits) || !validPhis(n.Instrs, i == 0) || !fitsRegister(n.A, n.End == api.Branch, f.Regs) {
			return false
		}
	}
	return true
}

// fitsInstr reports whether an instruction of a node with some predecessors has what its kind has.
func fitsInstr(f api.Flow, x api.Instr, predecessors int) bool {
	if x.Kind < 0 || x.Kind >= api.IKinds {
		return false
	}
	s := shapes[x.Kind]
	return fitsOp(x.Op, s) && fitsImm(f, int(x.Imm), s.imm) && fitsRegisters(x, f.Regs, predecessors)
}

// fitsRegisters reports whether an instruction of a node with some predecessors has the registers that its kind has.
func fitsRegisters(x api.Instr, registers, predecessors int) bool {
	has := instr.Of(x.Kind)
	if !has.Args {
		predecessors = 0
	}
	isOne := func(r int) bool { return fitsRegister(r, true, registers) }
	return fitsRegister(x.D, has.D, registers) && fitsRegister(x.A, has.A, registers) && fitsRegister(x.B, has.B, registers) &&
		len(x.Args) == predecessors && all(x.Args, isOne)
}

func fitsOp(op int, s shape) bool {
	if s.folds {
		return num.Folds(op)
	}
	return 0 <= op && op < s.ops
}

// fitsRegister reports whether r is one of some registers, or 0 where there is none.
func fitsRegister(r int, used bool, registers int) bool {
	if !used {
		return r == 0
	}
	return 0 <= r && r < registers
}

func fitsImm(f api.Flow, imm, what int) bool {
	switch what {
	case anyWord:
		return true
	case integer:
		return 0 <= imm && imm < len(f.Params) && !f.Params[imm].Buffer
	case array:
		return 0 <= imm && imm < len(f.Params) && f.Params[imm].Buffer || api.MaxParams <= imm && imm < api.MaxParams+len(f.Shared)
	case barrier:
		return 0 <= imm && imm <= api.MaxNodes
	}
	return imm == 0
}

// validPhis reports whether the IPhis of a node stand where they may, and have different D.
func validPhis(instrs []api.Instr, entry bool) bool {
	phis := instr.Phis(instrs)
	if entry && phis > 0 || slices.ContainsFunc(instrs[phis:], isPhi) {
		return false
	}
	assigned := map[int]bool{}
	for _, x := range instrs[:phis] {
		assigned[x.D] = true
	}
	return len(assigned) == phis
}

func isPhi(x api.Instr) bool { return x.Kind == api.IPhi }

// all reports whether every item fits.
func all[T any](items []T, fits func(item T) bool) bool {
	for _, item := range items {
		if !fits(item) {
			return false
		}
	}
	return true
}
