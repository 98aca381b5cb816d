package ssa

import (
	"slices"

	"drawloom/api"
	"drawloom/instr"
)

// compact returns a copy of a valid flow graph whose registers are numbered in the order in which they occur.
func compact(f api.Flow) api.Flow {
	numbers := map[int]int{}
	number := func(r int) int {
		k, known := numbers[r]
		if !known {
			k = len(numbers)
			numbers[r] = k
		}
		return k
	}
	f.Params, f.Shared, f.Nodes = slices.Clone(f.Params), slices.Clone(f.Shared), slices.Clone(f.Nodes)
	for i := range f.Nodes {
		n := &f.Nodes[i]
		n.Instrs = slices.Clone(n.Instrs)
		for j, x := range n.Instrs {
			if instr.Of(x.Kind).D {
				x.D = number(x.D)
			}
			n.Instrs[j] = instr.Renamed(x, number)
		}
		if n.End == api.Branch {
			n.A = number(n.A)
		}
	}
	f.Regs = len(numbers)
	return f
}
