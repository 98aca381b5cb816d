package graph_test

import (
	"fmt"
	"slices"
	"testing"

	"drawloom/api"
	"drawloom/graph"
)

// found is all that package graph finds in a graph; dominates[a][b] tells whether a dominates b.
type found struct {
	reachable, ends            []bool
	order                      []int
	dominators, postdominators []int
	dominates, postdominates   [][]bool
	frontier, loops, regions   [][]int
	reducible                  bool
}

// must returns the result of a call that must not fail.
func must[T any](t *testing.T, g [][]int) func(result T, e api.Errno) T {
	return func(result T, e api.Errno) T {
		t.Helper()
		if e != api.OK {
			t.Fatalf("%d: %d", g, e)
		}
		return result
	}
}

// find calls all functions for a graph and its nodes.
func find(t *testing.T, g [][]int) found {
	t.Helper()
	f := findAll(t, g)
	for a := range g {
		var dominates, postdominates []bool
		for b := range g {
			dominates = append(dominates, must[bool](t, g)(graph.Dominates(g, a, b)))
			postdominates = append(postdominates, must[bool](t, g)(graph.Postdominates(g, a, b)))
		}
		f.dominates = append(f.dominates, dominates)
		f.postdominates = append(f.postdominates, postdominates)
		f.regions = append(f.regions, must[[]int](t, g)(graph.Region(g, a)))
	}
	return f
}

// findAll calls all functions that have no nodes as arguments.
func findAll(t *testing.T, g [][]int) found {
	t.Helper()
	return found{
		reachable:      must[[]bool](t, g)(graph.Reachable(g)),
		ends:           must[[]bool](t, g)(graph.Ends(g)),
		order:          must[[]int](t, g)(graph.Order(g)),
		dominators:     must[[]int](t, g)(graph.Dominators(g)),
		postdominators: must[[]int](t, g)(graph.Postdominators(g)),
		frontier:       must[[][]int](t, g)(graph.Frontier(g)),
		loops:          must[[][]int](t, g)(graph.Loops(g)),
		reducible:      must[bool](t, g)(graph.Reducible(g)),
	}
}

// same reports whether two results are the same; an empty slice and a nil slice are.
func same(a, b any) bool { return fmt.Sprint(a) == fmt.Sprint(b) }

// want checks a result.
func want(t *testing.T, g [][]int, what string, got, want any) {
	t.Helper()
	if !same(got, want) {
		t.Errorf("%d: %s %v, want %v", g, what, got, want)
	}
}

// numbers returns the numbers of the nodes that are marked.
func numbers(marked []bool) []int {
	var l []int
	for i, is := range marked {
		if is {
			l = append(l, i)
		}
	}
	return l
}

// copied returns a graph that shares no memory with g.
func copied(g [][]int) [][]int {
	var made [][]int
	for _, l := range g {
		made = append(made, slices.Clone(l))
	}
	return made
}

// examples are graphs that are small enough to tell all of them by hand.
var examples = []struct {
	g                          [][]int
	reachable, ends            []int // their numbers
	order                      []int
	dominators, postdominators []int
	frontier, loops, regions   [][]int
	irreducible                bool
}{
	{ // one node
		g:         [][]int{{}},
		reachable: []int{0}, ends: []int{0}, order: []int{0},
		dominators: []int{-1}, postdominators: []int{-1},
		frontier: [][]int{{}}, loops: [][]int{{}}, regions: [][]int{{}},
	},
	{ // one node that follows itself
		g:         [][]int{{0}},
		reachable: []int{0}, order: []int{0},
		dominators: []int{-1}, postdominators: []int{-1},
		frontier: [][]int{{0}}, loops: [][]int{{0}}, regions: [][]int{{0}},
	},
	{ // an entry that follows itself, or ends
		g:         [][]int{{0, 1}, {}},
		reachable: []int{0, 1}, ends: []int{0, 1}, order: []int{0, 1},
		dominators: []int{-1, 0}, postdominators: []int{1, -1},
		frontier: [][]int{{0}, {}}, loops: [][]int{{0}, {}}, regions: [][]int{{0}, {}},
	},
	{ // example 1: a diamond
		g:         [][]int{{1, 2}, {3}, {3}, {}},
		reachable: []int{0, 1, 2, 3}, ends: []int{0, 1, 2, 3}, order: []int{0, 2, 1, 3},
		dominators: []int{-1, 0, 0, 0}, postdominators: []int{3, 3, 3, -1},
		frontier: [][]int{{}, {3}, {3}, {}}, loops: [][]int{{}, {}, {}, {}}, regions: [][]int{{1, 2}, {}, {}, {}},
	},
	{ // the diamond with its successors exchanged
		g:         [][]int{{2, 1}, {3}, {3}, {}},
		reachable: []int{0, 1, 2, 3}, ends: []int{0, 1, 2, 3}, order: []int{0, 1, 2, 3},
		dominators: []int{-1, 0, 0, 0}, postdominators: []int{3, 3, 3, -1},
		frontier: [][]int{{}, {3}, {3}, {}}, loops: [][]int{{}, {}, {}, {}}, regions: [][]int{{1, 2}, {}, {}, {}},
	},
	{ // example 2: a loop
		g:         [][]int{{1}, {2, 3}, {1}, {}},
		reachable: []int{0, 1, 2, 3}, ends: []int{0, 1, 2, 3}, order: []int{0, 1, 3, 2},
		dominators: []int{-1, 0, 1, 1}, postdominators: []int{1, 3, 1, -1},
		frontier: [][]int{{}, {1}, {1}, {}}, loops: [][]int{{}, {1, 2}, {}, {}}, regions: [][]int{{}, {1, 2}, {}, {}},
	},
	{ // example 3: a circle with two entries
		g:         [][]int{{1, 2}, {2}, {1}},
		reachable: []int{0, 1, 2}, order: []int{0, 1, 2},
		dominators: []int{-1, 0, 0}, postdominators: []int{-1, -1, -1},
		frontier: [][]int{{}, {2}, {1}}, loops: [][]int{{}, {}, {}}, regions: [][]int{{1, 2}, {1, 2}, {1, 2}},
		irreducible: true,
	},
	{ // two equal successors
		g:         [][]int{{1, 1}, {}},
		reachable: []int{0, 1}, ends: []int{0, 1}, order: []int{0, 1},
		dominators: []int{-1, 0}, postdominators: []int{1, -1},
		frontier: [][]int{{}, {}}, loops: [][]int{{}, {}}, regions: [][]int{{}, {}},
	},
	{ // two exits
		g:         [][]int{{1, 2}, {}, {}},
		reachable: []int{0, 1, 2}, ends: []int{0, 1, 2}, order: []int{0, 2, 1},
		dominators: []int{-1, 0, 0}, postdominators: []int{-1, -1, -1},
		frontier: [][]int{{}, {}, {}}, loops: [][]int{{}, {}, {}}, regions: [][]int{{1, 2}, {}, {}},
	},
	{ // a loop that leads back to the entry
		g:         [][]int{{1}, {0, 2}, {}},
		reachable: []int{0, 1, 2}, ends: []int{0, 1, 2}, order: []int{0, 1, 2},
		dominators: []int{-1, 0, 1}, postdominators: []int{1, 2, -1},
		frontier: [][]int{{0}, {0}, {}}, loops: [][]int{{0, 1}, {}, {}}, regions: [][]int{{}, {0, 1}, {}},
	},
	{ // unreachable nodes: 2 leads to the exit, 3 and 4 follow each other
		g:         [][]int{{1}, {}, {1, 3}, {4}, {3}},
		reachable: []int{0, 1}, ends: []int{0, 1, 2}, order: []int{0, 1},
		dominators: []int{-1, 0, -1, -1, -1}, postdominators: []int{1, -1, 1, -1, -1},
		frontier: [][]int{{}, {}, {}, {}, {}}, loops: [][]int{{}, {}, {}, {}, {}}, regions: [][]int{{}, {}, {3, 4}, {3, 4}, {3, 4}},
	},
	{ // an unreachable node leads into a loop, and one into an unreachable loop
		g:         [][]int{{1}, {2}, {1, 4}, {2, 5}, {}, {5, 4}},
		reachable: []int{0, 1, 2, 4}, ends: []int{0, 1, 2, 3, 4, 5}, order: []int{0, 1, 2, 4},
		dominators: []int{-1, 0, 1, -1, 2, -1}, postdominators: []int{1, 2, 4, 4, -1, 4},
		frontier: [][]int{{}, {1}, {1}, {}, {}, {}}, loops: [][]int{{}, {1, 2}, {}, {}, {}, {}}, regions: [][]int{{}, {}, {1, 2}, {1, 2, 5}, {}, {5}},
	},
	{ // a branch into a loop that never ends
		g:         [][]int{{1, 2}, {1}, {}},
		reachable: []int{0, 1, 2}, ends: []int{0, 2}, order: []int{0, 2, 1},
		dominators: []int{-1, 0, 0}, postdominators: []int{2, -1, -1},
		frontier: [][]int{{}, {1}, {}}, loops: [][]int{{}, {1}, {}}, regions: [][]int{{1}, {1}, {}},
	},
	{ // two nested loops
		g:         [][]int{{1}, {2, 5}, {3}, {4}, {2, 1}, {}},
		reachable: []int{0, 1, 2, 3, 4, 5}, ends: []int{0, 1, 2, 3, 4, 5}, order: []int{0, 1, 5, 2, 3, 4},
		dominators: []int{-1, 0, 1, 2, 3, 1}, postdominators: []int{1, 5, 3, 4, 1, -1},
		frontier: [][]int{{}, {1}, {1, 2}, {1, 2}, {1, 2}, {}}, loops: [][]int{{}, {1, 2, 3, 4}, {2, 3, 4}, {}, {}, {}},
		regions: [][]int{{}, {1, 2, 3, 4}, {}, {}, {2, 3, 4}, {}},
	},
	{ // a loop with two edges back, and a way out of its middle
		g:         [][]int{{1}, {2, 5}, {3, 4}, {1}, {1, 5}, {}},
		reachable: []int{0, 1, 2, 3, 4, 5}, ends: []int{0, 1, 2, 3, 4, 5}, order: []int{0, 1, 2, 4, 5, 3},
		dominators: []int{-1, 0, 1, 2, 2, 1}, postdominators: []int{1, 5, 5, 1, 5, -1},
		frontier: [][]int{{}, {1}, {1, 5}, {1}, {1, 5}, {}}, loops: [][]int{{}, {1, 2, 3, 4}, {}, {}, {}, {}},
		regions: [][]int{{}, {1, 2, 3, 4}, {1, 2, 3, 4}, {}, {1, 2, 3, 4}, {}},
	},
	{ // a circle with two entries in a loop
		g:         [][]int{{1}, {2, 3}, {3, 4}, {2}, {1}},
		reachable: []int{0, 1, 2, 3, 4}, order: []int{0, 1, 2, 4, 3},
		dominators: []int{-1, 0, 1, 1, 2}, postdominators: []int{-1, -1, -1, -1, -1},
		frontier: [][]int{{}, {1}, {1, 3}, {2}, {1}}, loops: [][]int{{}, {1, 2, 3, 4}, {}, {}, {}},
		regions:     [][]int{{1, 2, 3, 4}, {1, 2, 3, 4}, {1, 2, 3, 4}, {1, 2, 3, 4}, {1, 2, 3, 4}},
		irreducible: true,
	},
	{ // a circle with two entries that is not reachable
		g:         [][]int{{}, {2, 3}, {3}, {2}},
		reachable: []int{0}, ends: []int{0}, order: []int{0},
		dominators: []int{-1, -1, -1, -1}, postdominators: []int{-1, -1, -1, -1},
		frontier: [][]int{{}, {}, {}, {}}, loops: [][]int{{}, {}, {}, {}}, regions: [][]int{{}, {2, 3}, {2, 3}, {2, 3}},
	},
}

func TestExamples(t *testing.T) {
	for _, x := range examples {
		f := find(t, x.g)
		want(t, x.g, "reachable", numbers(f.reachable), x.reachable)
		want(t, x.g, "ends", numbers(f.ends), x.ends)
		want(t, x.g, "order", f.order, x.order)
		want(t, x.g, "dominators", f.dominators, x.dominators)
		want(t, x.g, "postdominators", f.postdominators, x.postdominators)
		want(t, x.g, "frontier", f.frontier, x.frontier)
		want(t, x.g, "loops", f.loops, x.loops)
		want(t, x.g, "regions", f.regions, x.regions)
		want(t, x.g, "reducible", f.reducible, !x.irreducible)
	}
}

// TestPairs checks some pairs of nodes of which one does or does not dominate or postdominate the other.
func TestPairs(t *testing.T) {
	diamond := [][]int{{1, 2}, {3}, {3}, {}}
	loop := [][]int{{1}, {2, 3}, {1}, {}}
	apart := [][]int{{1}, {}, {1, 3}, {3}}
	for _, x := range []struct {
		g         [][]int
		a, b      int
		dominates bool
		post      bool
	}{
		{diamond, 0, 0, true, true},
		{diamond, 0, 3, true, false},
		{diamond, 1, 3, false, false},
		{diamond, 3, 0, false, true},
		{diamond, 3, 1, false, true},
		{diamond, 1, 0, false, false},
		{loop, 1, 2, true, true},
		{loop, 2, 1, false, false},
		{loop, 1, 3, true, false},
		{loop, 3, 2, false, true},
		{apart, 2, 2, false, true},  // It is not reachable, but ends.
		{apart, 3, 3, false, false}, // It does neither.
		{apart, 0, 2, false, false},
		{apart, 2, 1, false, false},
		{apart, 1, 2, false, true},
		{apart, 3, 2, false, false},
		{apart, 0, 3, false, false},
		{apart, 1, 3, false, false},
		{[][]int{{0}}, 0, 0, true, false},
		{[][]int{{}}, 0, 0, true, true},
		{[][]int{{1, 2}, {}, {}}, 1, 0, false, false},
		{[][]int{{1, 2}, {1}, {}}, 2, 0, false, true},
		{[][]int{{1, 2}, {1}, {}}, 1, 0, false, false},
	} {
		is := must[bool](t, x.g)(graph.Dominates(x.g, x.a, x.b))
		post := must[bool](t, x.g)(graph.Postdominates(x.g, x.a, x.b))
		if is != x.dominates || post != x.post {
			t.Errorf("%d: %d and %d: %v, %v, want %v, %v", x.g, x.a, x.b, is, post, x.dominates, x.post)
		}
	}
}
