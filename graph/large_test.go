package graph_test

import (
	"slices"
	"testing"

	"drawloom/graph"
)

// size is the greatest number of nodes.
const size = 2000

// list returns the numbers from a to b - 1.
func list(a, b int) []int {
	var l []int
	for n := a; n < b; n++ {
		l = append(l, n)
	}
	return l
}

// lists returns so many lists.
func lists(nodes int, of func(n int) []int) [][]int {
	var l [][]int
	for n := range nodes {
		l = append(l, of(n))
	}
	return l
}

// numbersOf returns so many numbers.
func numbersOf(nodes int, of func(n int) int) []int {
	var l []int
	for n := range nodes {
		l = append(l, of(n))
	}
	return l
}

// wantLarge checks results for a graph of the greatest size.
func wantLarge(t *testing.T, what string, got, want any) {
	t.Helper()
	if !same(got, want) {
		t.Errorf("%s is wrong", what)
	}
}

func TestChain(t *testing.T) {
	g := chain(size)
	f := findAll(t, g)
	none := lists(size, func(n int) []int { return nil })
	wantLarge(t, "reachable", numbers(f.reachable), list(0, size))
	wantLarge(t, "ends", numbers(f.ends), list(0, size))
	wantLarge(t, "order", f.order, list(0, size))
	wantLarge(t, "dominators", f.dominators, list(-1, size-1))
	wantLarge(t, "postdominators", f.postdominators, append(list(1, size), -1))
	wantLarge(t, "frontier", f.frontier, none)
	wantLarge(t, "loops", f.loops, none)
	wantLarge(t, "reducible", f.reducible, true)
}

// TestBackToEntry checks a chain whose nodes also lead back to the entry.
func TestBackToEntry(t *testing.T) {
	g := lists(size, func(n int) []int {
		if n == size-1 {
			return []int{0}
		}
		return []int{0, n + 1}
	})
	f := findAll(t, g)
	wantLarge(t, "order", f.order, list(0, size))
	wantLarge(t, "ends", numbers(f.ends), []int{})
	wantLarge(t, "dominators", f.dominators, list(-1, size-1))
	wantLarge(t, "postdominators", f.postdominators, numbersOf(size, func(int) int { return -1 }))
	wantLarge(t, "frontier", f.frontier, lists(size, func(int) []int { return []int{0} }))
	wantLarge(t, "loops", f.loops, lists(size, func(n int) []int {
		if n > 0 {
			return nil
		}
		return list(0, size)
	}))
	wantLarge(t, "reducible", f.reducible, true)
	wantLarge(t, "region", must[[]int](t, g)(graph.Region(g, size-1)), list(0, size))
}

// TestDeepLoops checks loops within loops: the second half of a chain leads back to its first half.
func TestDeepLoops(t *testing.T) {
	g := chain(size)
	for n := size / 2; n < size-1; n++ {
		g[n] = append(g[n], size-1-n)
	}
	f := findAll(t, g)
	wantLarge(t, "dominators", f.dominators, list(-1, size-1))
	wantLarge(t, "postdominators", f.postdominators, append(list(1, size), -1))
	wantLarge(t, "loops", f.loops, lists(size, func(n int) []int {
		if n == 0 || n >= size/2 {
			return nil
		}
		return list(n, size-n)
	}))
	wantLarge(t, "frontier", f.frontier, lists(size, func(n int) []int {
		return list(1, min(n, size-1-n)+1)
	}))
	wantLarge(t, "reducible", f.reducible, true)
	for _, n := range []int{0, 1, size / 2, size - 2, size - 1} {
		region := list(size-1-n, n+1)
		if n == size-1 {
			region = nil
		}
		wantLarge(t, "region", must[[]int](t, g)(graph.Region(g, n)), region)
	}
}

// TestFan checks a tree all of whose leaves are exits.
func TestFan(t *testing.T) {
	g := lists(size-1, func(n int) []int {
		if 2*n+2 >= size-1 {
			return nil
		}
		return []int{2*n + 1, 2*n + 2}
	})
	f := findAll(t, g)
	wantLarge(t, "dominators", f.dominators[1:], numbersOf(size-2, func(n int) int { return n / 2 }))
	wantLarge(t, "postdominators", f.postdominators, numbersOf(size-1, func(int) int { return -1 }))
	wantLarge(t, "frontier", f.frontier, make([][]int, size-1))
	wantLarge(t, "region", must[[]int](t, g)(graph.Region(g, 0)), list(1, size-1))
}

// TestBothWays checks nodes that lead to their neighbours on both sides, and are entered at both ends: each one is dominated by the entry alone.
func TestBothWays(t *testing.T) {
	g := lists(size, func(n int) []int {
		switch n {
		case 0:
			return []int{1, size - 1}
		case 1:
			return []int{2}
		case size - 1:
			return []int{size - 2}
		}
		return []int{n - 1, n + 1}
	})
	f := findAll(t, g)
	wantLarge(t, "dominators", f.dominators, numbersOf(size, func(n int) int { return min(n, 1) - 1 }))
	wantLarge(t, "frontier", f.frontier[1:], lists(size-1, func(i int) []int {
		if i == size-2 {
			return []int{size - 2}
		}
		return slices.DeleteFunc([]int{i, i + 2}, func(n int) bool { return n < 1 })
	}))
	wantLarge(t, "reducible", f.reducible, false)
	wantLarge(t, "loops", f.loops, make([][]int, size))
}

// TestLargeMade compares immediate dominators and postdominators of made graphs with what is cut off without each node.
func TestLargeMade(t *testing.T) {
	for seed := range 8 {
		m := newMaker(seed)
		nodes := 400
		g := m.wild(nodes, 40)
		if seed%2 > 0 {
			g = m.knotted(m.program(nodes))
		}
		f := findAll(t, g)
		dominated := make([]int, len(g)) // how many dominate each node
		postdominated := make([]int, len(g))
		for a := range g {
			wants := spread(g, 0, a)
			for b := range g {
				if f.reachable[b] && !wants[b] {
					dominated[b]++
				}
			}
			for b, ends := range endsWithout(g, a) {
				if f.ends[b] && !ends {
					postdominated[b]++
				}
			}
		}
		for b := range g {
			if f.reachable[b] && dominated[b] != depth(f.dominators, b) || f.ends[b] && postdominated[b] != depth(f.postdominators, b) {
				t.Fatalf("%d: %d: %d and %d", seed, b, dominated[b], postdominated[b])
			}
		}
	}
}

// endsWithout reports for each node whether a path leads from it to an exit that does not contain a node.
func endsWithout(g [][]int, without int) []bool {
	is := make([]bool, len(g))
	for again := true; again; {
		again = false
		for a, after := range g {
			leads := len(after) == 0 || slices.ContainsFunc(after, func(b int) bool { return is[b] })
			if a != without && !is[a] && leads {
				is[a], again = true, true
			}
		}
	}
	return is
}

// depth returns how many nodes there are on the way from a node to the root of its tree.
func depth(above []int, n int) int {
	count := 0
	for ; n >= 0; n = above[n] {
		count++
	}
	return count
}
