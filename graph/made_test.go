package graph_test

import (
	"math/rand"
	"testing"
)

// every calls use for all graphs of so many nodes; with twice for those in which a node has its two successors in any order, or twice the same one.
func every(nodes int, twice bool, use func(g [][]int)) {
	lists := [][]int{{}}
	for a := range nodes {
		lists = append(lists, []int{a})
		for b := range nodes {
			if a < b || twice {
				lists = append(lists, []int{a, b})
			}
		}
	}
	g := make([][]int, nodes)
	var choose func(at int)
	choose = func(at int) {
		if at == nodes {
			use(g)
			return
		}
		for _, l := range lists {
			g[at] = l
			choose(at + 1)
		}
	}
	choose(0)
}

// maker makes graphs, the same ones each time.
type maker struct{ *rand.Rand }

func newMaker(seed int) maker { return maker{rand.New(rand.NewSource(int64(seed)))} }

// graph returns a graph of 1 to so many nodes, of one of several shapes.
func (m maker) graph(most int) [][]int {
	switch m.Intn(4) {
	case 0:
		return m.wild(1+m.Intn(most), 3)
	case 1:
		return m.wild(1+m.Intn(most), 12)
	case 2:
		return m.program(most)
	}
	return m.knotted(m.program(most))
}

// wild returns a graph of nodes whose successors are any; one in so many nodes is an exit.
func (m maker) wild(nodes, exits int) [][]int {
	g := make([][]int, nodes)
	for i := range g {
		for range 1 + m.Intn(2) {
			if m.Intn(exits) > 0 {
				g[i] = append(g[i], m.Intn(nodes))
			}
		}
	}
	return g
}

// program returns a graph as programs have them: of branches that meet, and of loops.
func (m maker) program(most int) [][]int {
	g := [][]int{{}}
	last := 0
	for len(g) < most {
		last = m.part(&g, last, most)
		if m.Intn(4) == 0 {
			break
		}
	}
	return m.shuffled(g)
}

// part adds statements behind a node, and returns the node behind them.
func (m maker) part(g *[][]int, at, most int) int {
	if len(*g)+3 > most {
		return at
	}
	add := func() int {
		*g = append(*g, nil)
		return len(*g) - 1
	}
	edge := func(from, to int) { (*g)[from] = append((*g)[from], to) }
	switch m.Intn(4) {
	case 0: // a choice
		then, other, after := add(), add(), add()
		edge(at, then)
		edge(at, other)
		edge(m.part(g, then, most), after)
		if end := m.part(g, other, most); m.Intn(4) > 0 { // Otherwise it returns there.
			edge(end, after)
		}
		return after
	case 1, 2: // a loop
		head, body, after := add(), add(), add()
		edge(at, head)
		edge(head, body)
		edge(head, after)
		edge(m.part(g, body, most), head)
		return after
	}
	next := add()
	edge(at, next)
	return m.part(g, next, most)
}

// knotted returns a graph with some more edges.
func (m maker) knotted(g [][]int) [][]int {
	for range 2 + m.Intn(6) {
		if at := m.Intn(len(g)); len(g[at]) == 1 {
			g[at] = append(g[at], m.Intn(len(g)))
		}
	}
	return g
}

// shuffled returns a graph with other numbers of its nodes than 0, and some of the nodes' successors exchanged.
func (m maker) shuffled(g [][]int) [][]int {
	made := renumbered(g, m.numbers(len(g)))
	for _, l := range made {
		m.Shuffle(len(l), func(i, j int) { l[i], l[j] = l[j], l[i] })
	}
	return made
}

// numbers returns new numbers for so many nodes; that of node 0 is 0.
func (m maker) numbers(nodes int) []int {
	numbers := []int{0}
	for _, number := range m.Perm(nodes - 1) {
		numbers = append(numbers, 1+number)
	}
	return numbers
}

// renumbered returns a graph whose nodes have new numbers.
func renumbered(g [][]int, numbers []int) [][]int {
	made := make([][]int, len(g))
	for a, after := range g {
		for _, b := range after {
			made[numbers[a]] = append(made[numbers[a]], numbers[b])
		}
	}
	return made
}

// compare checks all results for a graph against the second definition.
func compare(t *testing.T, g [][]int) found {
	t.Helper()
	f := find(t, g)
	if r := refFind(g); !same(f, r) {
		t.Fatalf("%d: %+v, want %+v", g, f, r)
	}
	return f
}

// TestEverySmall compares all results for all small graphs with the second definition.
func TestEverySmall(t *testing.T) {
	for nodes := 1; nodes <= 3; nodes++ {
		every(nodes, true, func(g [][]int) { compare(t, g) })
	}
	every(4, false, func(g [][]int) { compare(t, g) })
}

// TestMade compares all results for made graphs with the second definition.
func TestMade(t *testing.T) {
	irreducible, nested, several, partly, stopped := 0, 0, 0, 0, 0
	for seed := range 2500 {
		f := compare(t, newMaker(seed).graph(4+seed/100))
		if !f.reducible {
			irreducible++
		}
		if loops := inLoops(f.loops); loops > 1 {
			nested++
		}
		if len(f.order) > 1 && len(f.order) < len(f.reachable) {
			partly++
		}
		exits, without := 0, 0
		for a, region := range f.regions {
			if f.ends[a] && f.postdominators[a] < 0 && len(region) == 0 {
				exits++
			}
			if f.reachable[a] && !f.ends[a] {
				without++
			}
		}
		if exits > 1 {
			several++
		}
		if without > 0 {
			stopped++
		}
	}
	if irreducible < 250 || nested < 400 || several < 400 || partly < 400 || stopped < 400 {
		t.Errorf("only %d irreducible graphs, %d with nested loops, %d with several exits, %d with unreachable nodes, %d that do not all end", irreducible, nested, several, partly, stopped)
	}
}

// inLoops returns in how many loops the node is that is in most of them.
func inLoops(loops [][]int) int {
	counts := map[int]int{}
	most := 0
	for _, loop := range loops {
		for _, n := range loop {
			counts[n]++
			most = max(most, counts[n])
		}
	}
	return most
}
