package flow

import (
	"slices"

	"drawloom/api"
)

// successors returns the successors of a node, To before Else.
func successors(n api.Node) []int {
	switch n.End {
	case api.Jump:
		return []int{n.To}
	case api.Branch:
		return []int{n.To, n.Else}
	}
	return nil
}

// predecessors returns the predecessors of each node, rising, each once.
func predecessors(nodes []api.Node) [][]int {
	all := make([][]int, len(nodes))
	for i, n := range nodes {
		for _, to := range slices.Compact(successors(n)) {
			all[to] = append(all[to], i)
		}
	}
	return all
}

// allReached reports whether each node can be reached from node 0.
func allReached(nodes []api.Node) bool {
	reached := make([]bool, len(nodes))
	reached[0] = true
	work := []int{0}
	count := 1
	for len(work) > 0 {
		n := nodes[work[len(work)-1]]
		work = work[:len(work)-1]
		for _, to := range successors(n) {
			if !reached[to] {
				reached[to] = true
				work = append(work, to)
				count++
			}
		}
	}
	return count == len(nodes)
}
