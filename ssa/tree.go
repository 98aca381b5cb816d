package ssa

import (
	"slices"

	"drawloom/api"
	"drawloom/flow"
	"drawloom/graph"
)

// tree is the edges of a valid flow graph, and what a walk needs that comes to a node after those that dominate it.
type tree struct {
	after  [][]int // successors
	before [][]int // predecessors
	below  [][]int // the nodes whose immediate dominator a node is
}

func newTree(f api.Flow) tree {
	after, _ := flow.Successors(f)
	before, _ := flow.Predecessors(f)
	above, _ := graph.Dominators(after)
	below := make([][]int, len(above))
	for n, a := range above {
		if a != none {
			below[a] = append(below[a], n)
		}
	}
	return tree{after, before, below}
}

// arg returns which of the Args of a node's IPhis stands for a predecessor.
func (t *tree) arg(n, predecessor int) int {
	k, _ := slices.BinarySearch(t.before[n], predecessor)
	return k
}
