package graph_test

import (
	"math"
	"reflect"
	"testing"

	"drawloom/api"
	"drawloom/graph"
)

// call is a call of a function of package graph, with nodes if it has such arguments.
type call struct {
	name string
	run  func(g [][]int, a, b int) (any, api.Errno)
}

// plain calls a function that has no nodes as arguments.
func plain[T any](name string, f func(g [][]int) (T, api.Errno)) call {
	return call{name, func(g [][]int, a, b int) (any, api.Errno) { return f(g) }}
}

// pair calls a function that has two nodes as arguments.
func pair[T any](name string, f func(g [][]int, a, b int) (T, api.Errno)) call {
	return call{name, func(g [][]int, a, b int) (any, api.Errno) { return f(g, a, b) }}
}

var plainCalls = []call{
	plain("Reachable", graph.Reachable),
	plain("Ends", graph.Ends),
	plain("Order", graph.Order),
	plain("Dominators", graph.Dominators),
	plain("Postdominators", graph.Postdominators),
	plain("Frontier", graph.Frontier),
	plain("Loops", graph.Loops),
	plain("Reducible", graph.Reducible),
}

var pairCalls = []call{
	pair("Dominates", graph.Dominates),
	pair("Postdominates", graph.Postdominates),
	pair("Region of a", func(g [][]int, a, b int) ([]int, api.Errno) { return graph.Region(g, a) }),
}

// zero reports whether a result is a zero value; a slice may be empty.
func zero(x any) bool {
	v := reflect.ValueOf(x)
	return v.Kind() == reflect.Slice && v.Len() == 0 || v.IsZero()
}

// wantError checks that a call fails, and returns nothing else.
func wantError(t *testing.T, c call, g [][]int, a, b int, want api.Errno) {
	t.Helper()
	if x, e := c.run(g, a, b); e != want || !zero(x) {
		t.Errorf("%s of a graph of %d nodes, %d, %d: %v, %d, want %d", c.name, len(g), a, b, x, e, want)
	}
}

// chain returns a graph of nodes each of which, but the last one, leads to the next one.
func chain(nodes int) [][]int {
	g := make([][]int, nodes)
	for i := range nodes - 1 {
		g[i] = []int{i + 1}
	}
	return g
}

func TestNotValid(t *testing.T) {
	for _, g := range [][][]int{
		nil,
		{},
		{{1}},
		{{-1}},
		{{0, -1}},
		{{0, 1}},
		{{1, 2}, {}},
		{{1}, {0, math.MinInt}},
		{{1}, {math.MaxInt, 0}},
		{{1}, {}, {3}}, // The node that is wrong is not reachable.
		{{0, 0, 0}},
		{{1}, {0, 0, 0}, {}},
		{{}, {0, 1, 2}, {}},
		{make([]int, 100000)},
		chain(2001),
		make([][]int, 2001),
		make([][]int, 1000000),
	} {
		for _, c := range plainCalls {
			wantError(t, c, g, 0, 0, api.ErrForm)
		}
		for _, c := range pairCalls {
			wantError(t, c, g, 0, 0, api.ErrForm)
			wantError(t, c, g, -1, len(g), api.ErrForm)
		}
	}
}

func TestNoNodes(t *testing.T) {
	for _, g := range [][][]int{{{}}, {{1}, {1}}, {{1, 2}, {3}, {3}, {}}, chain(2000)} {
		for _, a := range []int{-1, len(g), len(g) + 1, math.MinInt, math.MaxInt} {
			for _, c := range pairCalls {
				wantError(t, c, g, a, 0, api.ErrArg)
				wantError(t, c, g, a, a, api.ErrArg)
			}
			for _, c := range pairCalls[:2] {
				wantError(t, c, g, 0, a, api.ErrArg)
				wantError(t, c, g, len(g)-1, a, api.ErrArg)
			}
		}
		for _, c := range pairCalls {
			if _, e := c.run(g, 0, len(g)-1); e != api.OK {
				t.Errorf("%s of a graph of %d nodes: %d", c.name, len(g), e)
			}
			if _, e := c.run(g, len(g)-1, 0); e != api.OK {
				t.Errorf("%s of a graph of %d nodes: %d", c.name, len(g), e)
			}
		}
	}
}

// TestEmptyLists checks that nil and empty lists of successors are the same.
func TestEmptyLists(t *testing.T) {
	with, without := [][]int{{1, 2}, {}, {1}, {}}, [][]int{{1, 2}, nil, {1}, nil}
	if a, b := find(t, with), find(t, without); !same(a, b) {
		t.Errorf("%v, %v", a, b)
	}
}

// TestArguments checks that graphs are neither changed nor kept, and that results are new.
func TestArguments(t *testing.T) {
	for _, x := range examples {
		g := copied(x.g)
		for _, c := range append(append([]call{}, plainCalls...), pairCalls...) {
			first, _ := c.run(g, 0, 0)
			again, _ := c.run(g, 0, 0)
			if !same(g, x.g) {
				t.Fatalf("%s has changed %d: %d", c.name, x.g, g)
			}
			spoil(first)
			if third, _ := c.run(g, 0, 0); !same(again, third) || !same(g, x.g) {
				t.Fatalf("%s of %d: %v, then %v", c.name, x.g, again, third)
			}
			kept, _ := c.run(g, 0, 0)
			for _, l := range g {
				spoil(l)
			}
			if !same(again, kept) {
				t.Fatalf("%s of %d: %v has become %v", c.name, x.g, again, kept)
			}
			g = copied(x.g)
		}
	}
}

// TestApart checks that the lists of one result share no memory.
func TestApart(t *testing.T) {
	madeGraphs(300, func(m maker, g [][]int) {
		for i, lists := range [][][]int{findAll(t, g).frontier, findAll(t, g).loops} {
			want := copied(lists)
			for j := range lists {
				spoil(append(lists[j], -9))
				spoil(lists[j])
				for k := j + 1; k < len(lists); k++ {
					if !same(lists[k], want[k]) {
						t.Fatalf("%d: %d: list %d has changed list %d", g, i, j, k)
					}
				}
			}
		}
	})
}

// spoil overwrites the numbers and the truths of a result.
func spoil(x any) {
	switch l := x.(type) {
	case []int:
		for i := range l {
			l[i] = -7
		}
	case []bool:
		for i := range l {
			l[i] = !l[i]
		}
	case [][]int:
		for i := range l {
			spoil(l[i])
			l[i] = nil
		}
	}
}
