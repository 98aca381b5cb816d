package graph_test

import "slices"

// All of the chapter's terms once more, in the words of their definitions: each question is answered by looking for paths.

// ref is a graph with its paths: paths[w+1][a][b] tells whether a path leads from a to b that does not contain w, which is -1 if it may contain all nodes.
type ref struct {
	g     [][]int
	paths [][][]bool
}

func newRef(g [][]int) ref {
	r := ref{g: g}
	for without := -1; without < len(g); without++ {
		var from [][]bool
		for a := range g {
			from = append(from, spread(g, a, without))
		}
		r.paths = append(r.paths, from)
	}
	return r
}

// spread adds successors until there are no more.
func spread(g [][]int, from, without int) []bool {
	is := make([]bool, len(g))
	is[from] = from != without
	for again := true; again; {
		again = false
		for a, after := range g {
			for _, b := range after {
				if is[a] && !is[b] && b != without {
					is[b], again = true, true
				}
			}
		}
	}
	return is
}

// path reports whether a path leads from a to b.
func (r ref) path(a, b int) bool { return r.paths[0][a][b] }

// pathWithout reports whether a path leads from a to b that does not contain w.
func (r ref) pathWithout(w, a, b int) bool { return r.paths[w+1][a][b] }

func (r ref) exits() []int { return r.all(func(n int) bool { return len(r.g[n]) == 0 }) }

// all returns the nodes that are such.
func (r ref) all(such func(n int) bool) []int {
	var l []int
	for n := range r.g {
		if such(n) {
			l = append(l, n)
		}
	}
	return l
}

func (r ref) reachable(n int) bool { return r.path(0, n) }

func (r ref) ends(n int) bool {
	return slices.ContainsFunc(r.exits(), func(exit int) bool { return r.path(n, exit) })
}

func (r ref) dominates(a, b int) bool {
	return r.reachable(a) && r.reachable(b) && !r.pathWithout(a, 0, b)
}

func (r ref) postdominates(a, b int) bool {
	around := func(exit int) bool { return r.pathWithout(a, b, exit) }
	return r.ends(b) && !slices.ContainsFunc(r.exits(), around)
}

// immediate returns the node other than b that is over b and that is under all other nodes that are over b except b.
func (r ref) immediate(over func(a, b int) bool, b int) int {
	others := r.all(func(a int) bool { return a != b && over(a, b) })
	for _, a := range others {
		if !slices.ContainsFunc(others, func(c int) bool { return c != a && !over(c, a) }) {
			return a
		}
	}
	return -1
}

func (r ref) frontier(a int) []int {
	return r.all(func(b int) bool {
		for p, after := range r.g {
			if slices.Contains(after, b) && r.dominates(a, p) && (!r.dominates(a, b) || a == b) {
				return true
			}
		}
		return false
	})
}

// backs returns the nodes from which back edges lead to b.
func (r ref) backs(b int) []int {
	return r.all(func(a int) bool { return slices.Contains(r.g[a], b) && r.dominates(b, a) })
}

func (r ref) loop(b int) []int {
	backs := r.backs(b)
	return r.all(func(n int) bool {
		if n == b {
			return len(backs) > 0
		}
		return r.reachable(n) && slices.ContainsFunc(backs, func(a int) bool { return r.pathWithout(b, n, a) })
	})
}

// reducible reports whether no reachable node leads to itself in the graph without its back edges.
func (r ref) reducible() bool {
	var rest [][]int
	for a, after := range r.g {
		var kept []int
		for _, b := range after {
			if !r.dominates(b, a) {
				kept = append(kept, b)
			}
		}
		rest = append(rest, kept)
	}
	for n := range rest {
		for _, to := range rest[n] {
			if r.reachable(n) && spread(rest, to, -1)[n] {
				return false
			}
		}
	}
	return true
}

func (r ref) region(b int) []int {
	p := r.immediate(r.postdominates, b)
	return r.all(func(n int) bool {
		return slices.ContainsFunc(r.g[b], func(to int) bool { return r.pathWithout(p, to, n) })
	})
}

// order returns the list that the chapter describes.
func (r ref) order() []int {
	var list []int
	visited := map[int]bool{}
	var visit func(n int)
	visit = func(n int) {
		visited[n] = true
		for _, to := range r.g[n] {
			if !visited[to] {
				visit(to)
			}
		}
		list = append([]int{n}, list...)
	}
	visit(0)
	return list
}

// refFind finds all in a graph that package graph finds.
func refFind(g [][]int) found {
	r := newRef(g)
	f := found{order: r.order(), reducible: r.reducible()}
	for a := range g {
		f.reachable = append(f.reachable, r.reachable(a))
		f.ends = append(f.ends, r.ends(a))
		f.dominators = append(f.dominators, r.immediate(r.dominates, a))
		f.postdominators = append(f.postdominators, r.immediate(r.postdominates, a))
		f.frontier = append(f.frontier, r.frontier(a))
		f.loops = append(f.loops, r.loop(a))
		f.regions = append(f.regions, r.region(a))
		var dominates, postdominates []bool
		for b := range g {
			dominates = append(dominates, r.dominates(a, b))
			postdominates = append(postdominates, r.postdominates(a, b))
		}
		f.dominates = append(f.dominates, dominates)
		f.postdominates = append(f.postdominates, postdominates)
	}
	return f
}
