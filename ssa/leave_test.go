package ssa_test

import (
	"slices"
	"testing"

	"drawloom/api"
	"drawloom/ssa"
)

// rounds returns a loop that is done n times, with some IPhis. Before it, registers 1 to 5 get the words 1 to 5; after it, the registers that are listed are stored in the cells of the buffer a. Register 0 counts the rounds; registers from 10 on are free.
func rounds(phis []api.Instr, stored ...int) api.Flow {
	before := []api.Instr{constant(6, 0)}
	for r := 1; r <= 5; r++ {
		before = append(before, constant(r, int32(r)))
	}
	phis = append(slices.Clone(phis), phi(0, 6, 7), param(8, 2), binary(api.Lt, 9, 0, 8))
	var after []api.Instr
	for i, r := range stored {
		after = append(after, constant(30+i, int32(i)), store(0, 30+i, r))
	}
	f := graph(jump(1, before...), branch(9, 2, 3, phis...), jump(1, binary(api.Add, 7, 0, 1)), exit(after...))
	f.Regs = 40
	return f
}

// turning is the same, but that the loop is one node, which leads to itself. It is done once at least.
func turning(phis []api.Instr, stored ...int) api.Flow {
	f := rounds(phis, stored...)
	f.Nodes[1].Instrs = append(f.Nodes[1].Instrs, f.Nodes[2].Instrs...)
	f.Nodes[1].To, f.Nodes[1].Else = 1, 2
	f.Nodes = []api.Node{f.Nodes[0], f.Nodes[1], f.Nodes[3]}
	return f
}

// TestSwap checks IPhis that exchange registers, or need each other's previous values.
func TestSwap(t *testing.T) { // P8.5
	for i, x := range []struct {
		phis   []api.Instr
		stored []int
		want   [][]int32 // after so many rounds
	}{
		{[]api.Instr{phi(10, 1, 11), phi(11, 2, 10)}, []int{10, 11}, [][]int32{{1, 2}, {2, 1}, {1, 2}, {2, 1}}},
		{[]api.Instr{phi(11, 2, 10), phi(10, 1, 11)}, []int{10, 11}, [][]int32{{1, 2}, {2, 1}, {1, 2}, {2, 1}}},
		{[]api.Instr{phi(10, 1, 11), phi(11, 2, 12), phi(12, 3, 10)}, []int{10, 11, 12}, [][]int32{{1, 2, 3}, {2, 3, 1}, {3, 1, 2}, {1, 2, 3}}},
		{[]api.Instr{phi(10, 1, 12), phi(11, 2, 10), phi(12, 3, 11)}, []int{10, 11, 12}, [][]int32{{1, 2, 3}, {3, 1, 2}, {2, 3, 1}, {1, 2, 3}}},
		// two circles
		{[]api.Instr{phi(10, 1, 11), phi(12, 3, 13), phi(11, 2, 10), phi(13, 4, 12)}, []int{10, 11, 12, 13}, [][]int32{{1, 2, 3, 4}, {2, 1, 4, 3}, {1, 2, 3, 4}}},
		{[]api.Instr{phi(10, 1, 13), phi(12, 3, 11), phi(11, 2, 14), phi(13, 4, 10), phi(14, 5, 12)}, []int{10, 11, 12, 13, 14}, [][]int32{{1, 2, 3, 4, 5}, {4, 5, 2, 1, 3}, {1, 3, 5, 4, 2}}},
		// previous values
		{[]api.Instr{phi(10, 1, 3), phi(11, 2, 10)}, []int{10, 11}, [][]int32{{1, 2}, {3, 1}, {3, 3}, {3, 3}}},
		{[]api.Instr{phi(11, 2, 10), phi(10, 1, 3)}, []int{10, 11}, [][]int32{{1, 2}, {3, 1}, {3, 3}, {3, 3}}},
		{[]api.Instr{phi(10, 1, 7), phi(11, 2, 10), phi(12, 3, 11), phi(13, 4, 12)}, []int{10, 11, 12, 13}, [][]int32{{1, 2, 3, 4}, {1, 1, 2, 3}, {2, 1, 1, 2}, {3, 2, 1, 1}}},
		{[]api.Instr{phi(13, 4, 12), phi(12, 3, 11), phi(11, 2, 10), phi(10, 1, 7)}, []int{10, 11, 12, 13}, [][]int32{{1, 2, 3, 4}, {1, 1, 2, 3}, {2, 1, 1, 2}, {3, 2, 1, 1}}},
		// a circle, and others that need its words
		{[]api.Instr{phi(10, 1, 11), phi(11, 2, 10), phi(12, 3, 10), phi(13, 4, 11), phi(14, 5, 12)}, []int{10, 11, 12, 13, 14}, [][]int32{{1, 2, 3, 4, 5}, {2, 1, 1, 2, 3}, {1, 2, 2, 1, 1}, {2, 1, 1, 2, 2}}},
		{[]api.Instr{phi(14, 5, 12), phi(13, 4, 11), phi(12, 3, 10), phi(11, 2, 10), phi(10, 1, 11)}, []int{10, 11, 12, 13, 14}, [][]int32{{1, 2, 3, 4, 5}, {2, 1, 1, 2, 3}, {1, 2, 2, 1, 1}, {2, 1, 1, 2, 2}}},
		// One keeps its word, and others need it.
		{[]api.Instr{phi(10, 1, 10), phi(11, 2, 10), phi(12, 3, 11)}, []int{10, 11, 12}, [][]int32{{1, 2, 3}, {1, 1, 2}, {1, 1, 1}}},
		{[]api.Instr{phi(10, 1, 10), phi(11, 2, 12), phi(12, 3, 11)}, []int{10, 11, 12}, [][]int32{{1, 2, 3}, {1, 3, 2}, {1, 2, 3}}},
		// the word that the counter had before the last round, and the one before that
		{[]api.Instr{phi(10, 4, 0), phi(11, 5, 10)}, []int{10, 11, 0}, [][]int32{{4, 5, 0}, {0, 4, 1}, {1, 0, 2}, {2, 1, 3}}},
		{[]api.Instr{phi(11, 5, 10), phi(10, 4, 0), phi(12, 1, 7)}, []int{10, 11, 12}, [][]int32{{4, 5, 1}, {0, 4, 1}, {1, 0, 2}, {2, 1, 3}}},
	} {
		for n, want := range x.want {
			wantStored(t, i, rounds(x.phis, x.stored...), n, want)
			wantStored(t, i, turning(x.phis, x.stored...), n, want)
		}
	}
}

// wantStored checks what a launch of a flow graph in form stores with the parameter n, and the same for what Leave makes of it.
func wantStored(t *testing.T, i int, f api.Flow, n int, want []int32) {
	t.Helper()
	if !ssa.InForm(f) {
		t.Fatalf("%d: not in form: %v", i, f)
	}
	l := api.Launch{Kernel: "k", Grid: 1, Block: 1, Args: []int32{0, 0, int32(n)}}
	m := api.Mem{make([]int32, len(want))}
	left := leave(t, f)
	for _, g := range []api.Flow{f, left, build(t, left), leave(t, build(t, left))} {
		if r := run(t, g, l, m, 1000); r.End != api.OK || len(r.Races) > 0 || !slices.Equal(r.Mem[0], want) {
			t.Errorf("%d: after %d rounds %v, want %d: %v", i, n, r, want, g)
		}
	}
}

// TestLeave checks what is stored by flow graphs whose IPhis stand on all kinds of edges. The parameter n chooses the ways.
func TestLeave(t *testing.T) { // P8.1, P8.5
	for i, x := range []struct {
		nodes []api.Node
		want  [][]int32
	}{
		{[]api.Node{exit()}, [][]int32{{}}},
		{[]api.Node{jump(1, constant(0, 0), param(1, 2)), exit(phi(2, 0), phi(3, 1), store(0, 2, 3))}, [][]int32{{0}, {1}}},
		// a Branch that leads to the node on one way, on the other one, on both
		{[]api.Node{branch(1, 1, 2, constant(0, 0), param(1, 2)), jump(2, constant(2, 7)), exit(phi(3, 1, 2), store(0, 0, 3))}, [][]int32{{0}, {7}}},
		{[]api.Node{branch(1, 2, 1, constant(0, 0), param(1, 2)), jump(2, constant(2, 7)), exit(phi(3, 1, 2), store(0, 0, 3))}, [][]int32{{7}, {1}}},
		{[]api.Node{branch(1, 1, 1, constant(0, 0), param(1, 2)), exit(phi(2, 1), store(0, 0, 2))}, [][]int32{{0}, {1}}},
		{[]api.Node{branch(1, 1, 2, constant(0, 0), param(1, 2)), exit(phi(2, 1), store(0, 0, 2)), exit(phi(3, 0), phi(4, 1), binary(api.Sub, 5, 3, 4), store(0, 4, 5))}, [][]int32{{0}, {1}, {2}}},
		// Both ways lead to nodes whose IPhis use the same registers.
		{
			[]api.Node{branch(1, 1, 2, constant(0, 0), param(1, 2)), branch(2, 2, 3, phi(2, 1, 3)), branch(3, 1, 3, phi(3, 0, 2), constant(4, 1)), exit(phi(5, 2, 3), constant(6, 1), store(0, 0, 5), store(0, 6, 1))},
			[][]int32{{0, 0}},
		},
		// What an IPhi assigns is used behind it, where the way does not lead back.
		{
			[]api.Node{jump(1, constant(0, 0), constant(1, 1), param(2, 2)), branch(5, 1, 2, phi(3, 0, 4), binary(api.Add, 4, 3, 1), binary(api.Lt, 5, 4, 2)), exit(constant(6, 2), store(0, 0, 3), store(0, 1, 4), store(0, 6, 2))},
			[][]int32{{0, 1, 0}, {0, 1, 1}, {1, 2, 2}, {2, 3, 3}},
		},
		// The same, but that the condition is an IPhi.
		{
			[]api.Node{jump(1, constant(0, 0), constant(1, 1), param(2, 2)), branch(3, 1, 2, phi(3, 2, 4), phi(5, 1, 3), binary(api.Sub, 4, 3, 1)), exit(store(0, 0, 5), store(0, 1, 4))},
			[][]int32{{1, -1}, {1, -1}, {1, -1}},
		},
		// The first of two nodes with IPhis leads to the second one.
		{
			[]api.Node{branch(1, 1, 2, constant(0, 0), param(1, 2)), jump(2, phi(2, 1), phi(3, 0)), branch(4, 3, 4, phi(4, 1, 3), phi(5, 0, 2)), exit(store(0, 0, 5)), jump(3, phi(6, 5), store(0, 6, 1))},
			[][]int32{{0, 0}, {1, 1}},
		},
	} {
		f := graph(x.nodes...)
		for n, want := range x.want {
			wantStored(t, i, f, n, want)
		}
	}
}

// TestLeaveKeeps checks that a flow graph without IPhis stays as it is, but for the names of registers.
func TestLeaveKeeps(t *testing.T) {
	for seed := range 500 {
		f := newMaker(seed).inForm(false)
		if l := leave(t, f); !alike(t, f, l) {
			t.Fatalf("%v: %v", f, l)
		}
	}
	f := graph(jump(1, constant(9, 1)), branch(9, 1, 2, phi(8, 9, 8)), exit(store(0, 9, 8)))
	if l := leave(t, f); size(l) != 6 { // An IPhi that uses its D needs no copy.
		t.Errorf("%v", l)
	}
}
