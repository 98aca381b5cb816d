package graph_test

import (
	"slices"
	"testing"

	"drawloom/graph"
)

// madeGraphs calls use for so many made graphs of up to 60 nodes.
func madeGraphs(seeds int, use func(m maker, g [][]int)) {
	for seed := range seeds {
		m := newMaker(seed)
		g := m.graph(1 + seed%60)
		use(m, g)
	}
}

// TestTree checks that the immediate dominators are a tree, and that dominators come first.
func TestTree(t *testing.T) { // P7.1
	madeGraphs(1500, func(m maker, g [][]int) {
		f := findAll(t, g)
		position := map[int]int{}
		for i, n := range f.order {
			position[n] = i
		}
		for b := range g {
			if (f.dominators[b] < 0) != (b == 0 || !f.reachable[b]) {
				t.Fatalf("%d: the immediate dominator of %d is %d", g, b, f.dominators[b])
			}
			above := map[int]bool{}
			if f.reachable[b] {
				for a := b; a >= 0 && !above[a]; a = f.dominators[a] {
					above[a] = true
				}
				if !above[0] {
					t.Fatalf("%d: 0 is not above %d", g, b)
				}
			}
			for a := range g {
				dominates := must[bool](t, g)(graph.Dominates(g, a, b))
				if dominates != above[a] {
					t.Fatalf("%d: %d dominates %d: %v", g, a, b, dominates)
				}
				if dominates && position[a] > position[b] {
					t.Fatalf("%d: %d comes before %d in %d", g, b, a, f.order)
				}
			}
		}
		if len(f.order) != len(numbers(f.reachable)) || len(position) != len(f.order) {
			t.Fatalf("%d: %d", g, f.order)
		}
	})
}

// TestTurned compares postdominators with the dominators of the turned graph.
func TestTurned(t *testing.T) { // P7.2
	turned := 0
	madeGraphs(6000, func(m maker, g [][]int) {
		f := findAll(t, g)
		exits := slices.DeleteFunc(slices.Clone(f.order), func(n int) bool { return len(g[n]) > 0 })
		if len(exits) != 1 || slices.Contains(f.reachable, false) || slices.Contains(f.ends, false) {
			return
		}
		back, narrow := turn(g, exits[0])
		if !narrow { // It would have too many successors.
			return
		}
		turned++
		dominators := must[[]int](t, back)(graph.Dominators(back))
		for i := range g {
			if want := swapped(dominators[swapped(i, exits[0])], exits[0]); f.postdominators[i] != want {
				t.Fatalf("%d: the immediate postdominator of %d is %d, want %d", g, i, f.postdominators[i], want)
			}
		}
	})
	if turned < 400 {
		t.Errorf("only %d graphs", turned)
	}
}

// swapped returns a number, but 0 and another one for each other.
func swapped(number, other int) int {
	switch number {
	case 0:
		return other
	case other:
		return 0
	}
	return number
}

// turn returns the turned graph, in which node 0 and the exit have exchanged their numbers; and whether it has at most two successors everywhere.
func turn(g [][]int, exit int) ([][]int, bool) {
	back := make([][]int, len(g))
	narrow := true
	for a, after := range g {
		for _, b := range after {
			from := swapped(b, exit)
			back[from] = append(back[from], swapped(a, exit))
			narrow = narrow && len(back[from]) <= 2
		}
	}
	return back, narrow
}

// TestFrontierEnds checks that dominance ends at the frontiers.
func TestFrontierEnds(t *testing.T) { // P7.3
	madeGraphs(900, func(m maker, g [][]int) {
		f := find(t, g)
		for a := range g {
			if !slices.IsSorted(f.frontier[a]) || len(slices.Compact(slices.Clone(f.frontier[a]))) != len(f.frontier[a]) {
				t.Fatalf("%d: the frontier of %d does not rise: %d", g, a, f.frontier[a])
			}
			if !f.reachable[a] && len(f.frontier[a]) > 0 {
				t.Fatalf("%d: the frontier of %d: %d", g, a, f.frontier[a])
			}
			var edge []int
			for from, after := range g {
				for _, to := range after {
					if f.dominates[a][from] && (!f.dominates[a][to] || a == to) {
						edge = append(edge, to)
					}
				}
			}
			slices.Sort(edge)
			if !slices.Equal(slices.Compact(edge), f.frontier[a]) {
				t.Fatalf("%d: the frontier of %d: %d, want %d", g, a, f.frontier[a], edge)
			}
		}
	})
}

// TestNested checks that loops of reducible graphs are nested or disjoint.
func TestNested(t *testing.T) { // P7.4
	pairs, nested := 0, 0
	madeGraphs(3000, func(m maker, g [][]int) {
		f := findAll(t, g)
		for b, loop := range f.loops {
			if len(loop) == 0 {
				continue
			}
			if !slices.IsSorted(loop) || !slices.Contains(loop, b) {
				t.Fatalf("%d: the loop of %d: %d", g, b, loop)
			}
			for _, other := range f.loops[:b] {
				both := len(common(loop, other))
				if f.reducible && both != 0 && both != len(loop) && both != len(other) {
					t.Fatalf("%d: %d and %d", g, loop, other)
				}
				if f.reducible && len(other) > 0 {
					pairs++
				}
				if f.reducible && both > 0 {
					nested++
				}
			}
		}
	})
	if pairs < 4000 || nested < 1500 {
		t.Errorf("only %d pairs, %d of them nested", pairs, nested)
	}
}

// common returns the numbers that are in both lists.
func common(a, b []int) []int {
	return slices.DeleteFunc(slices.Clone(a), func(n int) bool { return !slices.Contains(b, n) })
}

// TestWayOut checks that one leaves a region by the immediate postdominator alone.
func TestWayOut(t *testing.T) { // P7.5
	with, without, own := 0, 0, 0
	madeGraphs(1500, func(m maker, g [][]int) {
		postdominators := must[[]int](t, g)(graph.Postdominators(g))
		for b, p := range postdominators {
			region := must[[]int](t, g)(graph.Region(g, b))
			for _, from := range append([]int{b}, region...) {
				for _, to := range g[from] {
					if to != p && !slices.Contains(region, to) {
						t.Fatalf("%d: from the region of %d, %d, an edge leads from %d to %d", g, b, region, from, to)
					}
				}
			}
			if p < 0 {
				without++
				if all := behindNode(g, b); !slices.Equal(region, all) {
					t.Fatalf("%d: the region of %d: %d, want %d", g, b, region, all)
				}
				continue
			}
			with++
			if slices.Contains(region, p) || !slices.IsSorted(region) {
				t.Fatalf("%d: the region of %d: %d", g, b, region)
			}
			if slices.Contains(region, b) {
				own++
			}
		}
	})
	if with < 5000 || without < 5000 || own < 1000 {
		t.Errorf("only %d regions with an end, %d without, %d with their node", with, without, own)
	}
}

// behindNode returns all nodes that can be reached from the successors of a node, rising.
func behindNode(g [][]int, b int) []int {
	is := make([]bool, len(g))
	for _, to := range g[b] {
		for n, reached := range spread(g, to, -1) {
			is[n] = is[n] || reached
		}
	}
	return numbers(is)
}

// TestRenumbered checks that all results but the order are renumbered with the nodes.
func TestRenumbered(t *testing.T) { // P7.6
	madeGraphs(600, func(m maker, g [][]int) {
		to := m.numbers(len(g))
		f, other := find(t, g), find(t, renumbered(g, to))
		if f.reducible != other.reducible {
			t.Fatalf("%d by %d: reducible %v", g, to, other.reducible)
		}
		for a := range g {
			b := to[a]
			if f.reachable[a] != other.reachable[b] || f.ends[a] != other.ends[b] {
				t.Fatalf("%d by %d: reachable %v, ends %v", g, to, other.reachable, other.ends)
			}
			if renamed(to, f.dominators[a]) != other.dominators[b] || renamed(to, f.postdominators[a]) != other.postdominators[b] {
				t.Fatalf("%d by %d: dominators %d, postdominators %d", g, to, other.dominators, other.postdominators)
			}
			if !same(allRenamed(to, f.frontier[a]), other.frontier[b]) || !same(allRenamed(to, f.loops[a]), other.loops[b]) || !same(allRenamed(to, f.regions[a]), other.regions[b]) {
				t.Fatalf("%d by %d: frontier %d, loops %d, regions %d", g, to, other.frontier, other.loops, other.regions)
			}
			for c := range g {
				if f.dominates[a][c] != other.dominates[b][to[c]] || f.postdominates[a][c] != other.postdominates[b][to[c]] {
					t.Fatalf("%d by %d: %d and %d", g, to, a, c)
				}
			}
		}
	})
}

// renamed returns the new number of a node, or -1.
func renamed(to []int, n int) int {
	if n < 0 {
		return -1
	}
	return to[n]
}

// allRenamed returns the new numbers of nodes, rising.
func allRenamed(to, nodes []int) []int {
	var l []int
	for _, n := range nodes {
		l = append(l, to[n])
	}
	slices.Sort(l)
	return l
}
