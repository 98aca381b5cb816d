package ssa

import (
	"slices"

	"drawloom/api"
	"drawloom/instr"
)

// variable is where a register occurs: the nodes that assign it, and those that use it before they assign it, if they do. Both lists are in order; a node is in them as often as it does so.
type variable struct {
	assigned, read []int
}

// variables returns where each register of a flow graph without IPhis occurs.
func variables(f api.Flow) []variable {
	all := make([]variable, f.Regs)
	for n, node := range f.Nodes {
		for _, x := range node.Instrs {
			for _, r := range instr.Uses(x) {
				all[r].noteUse(n)
			}
			if instr.Of(x.Kind).D {
				all[x.D].assigned = append(all[x.D].assigned, n)
			}
		}
		if node.End == api.Branch {
			all[node.A].noteUse(n)
		}
	}
	return all
}

// noteUse notes that a node uses the register. What the node has done before has been noted.
func (v *variable) noteUse(n int) {
	if !v.assignedIn(n) {
		v.read = append(v.read, n)
	}
}

// assignedIn reports whether one of the nodes that assign the register, as far as they have been noted, is n.
func (v *variable) assignedIn(n int) bool {
	_, is := slices.BinarySearch(v.assigned, n)
	return is
}

// spread reports for each node whether steps, at least one, lead to it from one of some nodes, all of them to nodes to which they may lead.
func spread(from []int, steps [][]int, may func(n int) bool) []bool {
	found := make([]bool, len(steps))
	work := slices.Clone(from)
	for len(work) > 0 {
		n := work[len(work)-1]
		work = work[:len(work)-1]
		for _, to := range steps[n] {
			if !found[to] && may(to) {
				found[to] = true
				work = append(work, to)
			}
		}
	}
	return found
}
