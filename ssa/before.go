package ssa

import (
	"drawloom/api"
	"drawloom/instr"
)

// assignedOnce reports whether each register is D of at most one instruction.
func assignedOnce(f api.Flow) bool {
	is := make([]bool, f.Regs)
	for _, n := range f.Nodes {
		for _, r := range assigned(n) {
			if is[r] {
				return false
			}
			is[r] = true
		}
	}
	return true
}

// assignedBefore reports whether each register that is used in a valid flow graph is assigned before. Each is D of at most one instruction.
func assignedBefore(f api.Flow) bool {
	r := reader{tree: newTree(f), nodes: f.Nodes, known: make([]bool, f.Regs)}
	return r.fits(0)
}

// reader reads the nodes of a flow graph. It knows the registers that are assigned before the place at which it is.
type reader struct {
	tree
	nodes []api.Node
	known []bool
}

// fits reports whether all registers are known that are used in a node, and in those that it dominates.
func (r *reader) fits(n int) bool {
	node := r.nodes[n]
	defer r.forget(assigned(node))
	for _, x := range node.Instrs {
		if x.Kind != api.IPhi && !r.knows(instr.Uses(x)...) {
			return false
		}
		if instr.Of(x.Kind).D {
			r.known[x.D] = true
		}
	}
	if node.End == api.Branch && !r.knows(node.A) {
		return false
	}
	for _, to := range r.after[n] {
		if !r.knowsArgs(n, to) {
			return false
		}
	}
	for _, next := range r.below[n] {
		if !r.fits(next) {
			return false
		}
	}
	return true
}

// knowsArgs reports whether the registers are known that the IPhis of a node use at the end of a predecessor.
func (r *reader) knowsArgs(from, to int) bool {
	k := r.arg(to, from)
	l := r.nodes[to].Instrs
	for _, x := range l[:instr.Phis(l)] {
		if !r.knows(x.Args[k]) {
			return false
		}
	}
	return true
}

func (r *reader) knows(registers ...int) bool {
	for _, x := range registers {
		if !r.known[x] {
			return false
		}
	}
	return true
}

func (r *reader) forget(registers []int) {
	for _, x := range registers {
		r.known[x] = false
	}
}
