package graph

// isAbove reports whether a dominates b, by the immediate dominators of a graph whose nodes a and b are reachable.
func isAbove(dominators []int, a, b int) bool {
	for b != a && b != none {
		b = dominators[b]
	}
	return b == a
}

// frontier returns the frontier of each node. A node is in the frontiers of its predecessors and of those above them, up to its own immediate dominator, which dominates all its predecessors.
func frontier(g [][]int) [][]int {
	g = entered(g)
	above := dominators(g, 0)
	list := make([][]int, len(g))
	for b, before := range turned(g) {
		for _, from := range before {
			for a := from; a != above[b] && !endsWith(list[a], b); a = above[a] {
				list[a] = append(list[a], b)
			}
		}
	}
	return list
}

// endsWith reports whether a number is the last one of a list.
func endsWith(list []int, number int) bool {
	return len(list) > 0 && list[len(list)-1] == number
}

// loops returns the loop of each node.
func loops(g [][]int) [][]int {
	g = entered(g)
	above := dominators(g, 0)
	before := turned(g)
	list := make([][]int, len(g))
	for b := range g {
		inside := make([]bool, len(g))
		for _, a := range before[b] {
			if isAbove(above, b, a) {
				inside[b] = true
				for node := range walk(before, a, b) {
					inside[node] = true
				}
			}
		}
		list[b] = rising(inside)
	}
	return list
}

// reducible reports whether a graph is reducible. Each circle has an edge that does not lead forward in reverse postorder; such an edge leads to a node from which the walk came, so that it closes a circle whose other edges are no back edges. So all of these edges must be back edges.
func reducible(g [][]int) bool {
	above := dominators(g, 0)
	position := make([]int, len(g))
	nodes := order(g)
	for i, node := range nodes {
		position[node] = i
	}
	for _, a := range nodes {
		for _, b := range g[a] {
			if position[b] <= position[a] && !isAbove(above, b, a) {
				return false
			}
		}
	}
	return true
}

// region returns the region of b.
func region(g [][]int, b int) []int {
	meet := postdominators(g)[b]
	inside := make([]bool, len(g))
	for _, to := range g[b] {
		for node := range walk(g, to, meet) {
			inside[node] = true
		}
	}
	return rising(inside)
}
