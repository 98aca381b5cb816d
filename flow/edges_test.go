package flow_test

import (
	"slices"
	"testing"

	"drawloom/api"
	"drawloom/flow"
)

func wantInts(t *testing.T, got []int, want ...int) {
	t.Helper()
	if !slices.Equal(got, want) {
		t.Errorf("%d, want %d", got, want)
	}
}

func TestEdges(t *testing.T) {
	for i, x := range []struct {
		nodes         []api.Node
		after, before [][]int
	}{
		{[]api.Node{exit()}, [][]int{nil}, [][]int{nil}},
		{[]api.Node{jump(1), jump(1)}, [][]int{{1}, {1}}, [][]int{nil, {0, 1}}},
		{[]api.Node{branch(0, 1, 1), exit()}, [][]int{{1, 1}, nil}, [][]int{nil, {0}}},
		{[]api.Node{branch(0, 2, 1), jump(2), exit()}, [][]int{{2, 1}, {2}, nil}, [][]int{nil, {0}, {0, 1}}},
		{[]api.Node{jump(3), exit(), branch(0, 1, 2), branch(0, 2, 2)}, [][]int{{3}, nil, {1, 2}, {2, 2}}, [][]int{nil, {2}, {2, 3}, {0}}},
		{[]api.Node{branch(0, 3, 1), jump(3), exit(), branch(0, 3, 2)}, [][]int{{3, 1}, {3}, nil, {3, 2}}, [][]int{nil, {0}, {3}, {0, 1, 3}}},
	} {
		after, e := flow.Successors(graph(x.nodes...))
		if e != api.OK || !slices.EqualFunc(after, x.after, slices.Equal) {
			t.Errorf("%d: %d, %d, want %d", i, after, e, x.after)
		}
		before, e := flow.Predecessors(graph(x.nodes...))
		if e != api.OK || !slices.EqualFunc(before, x.before, slices.Equal) {
			t.Errorf("%d: %d, %d, want %d", i, before, e, x.before)
		}
	}
}

// TestEdgesLong checks the edges of a flow graph of the greatest size.
func TestEdgesLong(t *testing.T) {
	f := graph()
	for i := range 1999 {
		f.Nodes = append(f.Nodes, branch(0, 1999, min(i+1, 1998)))
	}
	f.Nodes = append(f.Nodes, exit())
	after, e := flow.Successors(f)
	before, e2 := flow.Predecessors(f)
	if e != api.OK || e2 != api.OK || len(after) != 2000 || len(before) != 2000 {
		t.Fatalf("%d, %d, %d, %d", e, e2, len(after), len(before))
	}
	wantInts(t, after[1998], 1999, 1998)
	wantInts(t, after[1999])
	wantInts(t, before[0])
	wantInts(t, before[1998], 1997, 1998)
	if l := before[1999]; len(l) != 1999 || l[0] != 0 || l[1998] != 1998 {
		t.Errorf("%d", l)
	}
}

// TestEdgesApart checks that the lists of a result share no memory with each other and with the next result.
func TestEdgesApart(t *testing.T) {
	f := graph(branch(0, 1, 2), branch(0, 2, 3), branch(0, 1, 3), exit())
	for i, edges := range []func(f api.Flow) ([][]int, api.Errno){flow.Successors, flow.Predecessors} {
		first, _ := edges(f)
		want, _ := edges(f)
		for j := range first {
			l := first[j]
			for k := range l {
				l[k] = -1
			}
			_ = append(l, -1)
			for k := j + 1; k < len(first); k++ {
				if !slices.Equal(first[k], want[k]) {
					t.Errorf("%d: %d has changed %d", i, j, k)
				}
			}
		}
		if again, _ := edges(f); !slices.EqualFunc(again, want, slices.Equal) {
			t.Errorf("%d: %d, want %d", i, again, want)
		}
	}
}
