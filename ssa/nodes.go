package ssa

import (
	"drawloom/api"
	"drawloom/instr"
)

func hasPhis(n api.Node) bool { return instr.Phis(n.Instrs) > 0 }

// size returns how many nodes and instructions there are.
func size(nodes []api.Node) int {
	sum := len(nodes)
	for _, n := range nodes {
		sum += len(n.Instrs)
	}
	return sum
}

// assigned returns the registers that are D of the instructions of a node, in their order.
func assigned(n api.Node) []int {
	var all []int
	for _, x := range n.Instrs {
		if instr.Of(x.Kind).D {
			all = append(all, x.D)
		}
	}
	return all
}

// used returns the registers that a node uses, each one as often as it is used.
func used(n api.Node) []int {
	var all []int
	for _, x := range n.Instrs {
		all = append(all, instr.Uses(x)...)
	}
	if n.End == api.Branch {
		all = append(all, n.A)
	}
	return all
}
