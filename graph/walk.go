package graph

// walker visits nodes depth first.
type walker struct {
	g     [][]int
	seen  []bool
	yield func(node int, enters bool) bool
}

// walk returns a function to range over. It visits the nodes to which paths lead from a node that do not contain a closed one (which may be none). It yields each of them twice: when it enters the node, and when it leaves it, after all that it visits from there; successors are visited in order.
func walk(g [][]int, from, closed int) func(yield func(node int, enters bool) bool) {
	return func(yield func(node int, enters bool) bool) {
		w := walker{g, make([]bool, len(g)), yield}
		if closed != none {
			w.seen[closed] = true
		}
		w.visit(from)
	}
}

// visit visits a node, unless it has been seen. It reports whether the walk goes on.
func (w walker) visit(node int) bool {
	if w.seen[node] {
		return true
	}
	w.seen[node] = true
	if !w.yield(node, true) {
		return false
	}
	for _, to := range w.g[node] {
		if !w.visit(to) {
			return false
		}
	}
	return w.yield(node, false)
}

// leads reports whether a path that does not contain a closed node leads from a node to one that is a goal.
func leads(g [][]int, from, closed int, goal func(node int) bool) bool {
	for node := range walk(g, from, closed) {
		if goal(node) {
			return true
		}
	}
	return false
}

// reached reports for each node whether a path leads to it from a given one.
func reached(g [][]int, from int) []bool {
	is := make([]bool, len(g))
	for node := range walk(g, from, none) {
		is[node] = true
	}
	return is
}

// ends reports for each node whether it ends.
func ends(g [][]int) []bool { return reached(behind(g), len(g))[:len(g)] }

// order returns the reachable nodes in reverse postorder.
func order(g [][]int) []int {
	var left []int
	for node, enters := range walk(g, 0, none) {
		if !enters {
			left = append(left, node)
		}
	}
	last := len(left) - 1
	for i := range len(left) / 2 {
		left[i], left[last-i] = left[last-i], left[i]
	}
	return left
}

// turned returns a graph with all edges in the other direction.
func turned(g [][]int) [][]int {
	before := make([][]int, len(g))
	for node, after := range g {
		for _, to := range after {
			before[to] = append(before[to], node)
		}
	}
	return before
}

// behind returns the turned graph with one more node, from which an edge leads to each exit: the graph as it is seen from behind its exits.
func behind(g [][]int) [][]int {
	var exits []int
	for node, after := range g {
		if len(after) == 0 {
			exits = append(exits, node)
		}
	}
	return append(turned(g), exits)
}

// entered returns a graph without the edges from nodes that are not reachable.
func entered(g [][]int) [][]int {
	part := make([][]int, len(g))
	for node := range walk(g, 0, none) {
		part[node] = g[node]
	}
	return part
}

// rising returns the numbers of the nodes that are marked.
func rising(marked []bool) []int {
	var nodes []int
	for node, is := range marked {
		if is {
			nodes = append(nodes, node)
		}
	}
	return nodes
}
