package ssa_test

import (
	"slices"
	"testing"

	"drawloom/api"
	"drawloom/flow"
	"drawloom/ssa"
)

// alike reports whether two flow graphs are the same but for the names of registers.
func alike(t *testing.T, a, b api.Flow) bool {
	t.Helper()
	return sameFlow(compact(t, a), compact(t, b))
}

func TestInForm(t *testing.T) {
	for i, x := range []struct {
		want  bool
		nodes []api.Node
	}{
		{true, []api.Node{exit()}},
		{true, []api.Node{exit(constant(0, 1))}},
		{true, []api.Node{exit(constant(9, 1), constant(3, 1), store(0, 9, 3))}},
		{false, nil},
		{false, []api.Node{exit(constant(10, 1))}}, // not valid

		// Each register is D of at most one instruction.
		{false, []api.Node{exit(constant(0, 1), constant(0, 1))}},
		{false, []api.Node{jump(1, constant(0, 1)), exit(param(0, 2))}},
		{false, []api.Node{branch(0, 1, 2, constant(0, 1)), exit(constant(1, 1)), exit(constant(1, 1))}},
		{false, []api.Node{jump(1, constant(0, 1)), exit(phi(0, 0))}},

		// Each register that is used is D of an instruction before it in its node.
		{false, []api.Node{exit(copyOf(1, 0))}},
		{false, []api.Node{exit(copyOf(0, 0))}},
		{false, []api.Node{exit(copyOf(1, 0), constant(0, 1))}},
		{true, []api.Node{exit(constant(0, 1), copyOf(1, 0))}},
		{true, []api.Node{exit(constant(0, 1), unary(api.Neg, 1, 0), binary(api.Add, 2, 0, 1), load(3, 0, 2), store(0, 2, 3), atomic(api.Add, 6, 3, 0), collect(api.Max, 4, 3, 0), barrier(1), special(5, api.Tid), param(6, 2))}},
		{false, []api.Node{exit(constant(0, 1), unary(api.Neg, 1, 2))}},
		{false, []api.Node{exit(constant(0, 1), binary(api.Add, 1, 2, 0))}},
		{false, []api.Node{exit(constant(0, 1), binary(api.Add, 1, 0, 2))}},
		{false, []api.Node{exit(constant(1, 1), binary(api.Add, 2, 1, 0))}},
		{false, []api.Node{exit(constant(0, 1), load(1, 0, 2))}},
		{false, []api.Node{exit(constant(0, 1), store(0, 2, 0))}},
		{false, []api.Node{exit(constant(0, 1), store(0, 0, 2))}},
		{false, []api.Node{exit(constant(0, 1), atomic(api.Add, 0, 2, 0))}},
		{false, []api.Node{exit(constant(0, 1), atomic(api.Add, 0, 0, 2))}},
		{false, []api.Node{exit(constant(0, 1), collect(api.Add, 1, 2, 0))}},
		{false, []api.Node{exit(collect(api.Add, 1, 1, 0))}},
		{false, []api.Node{branch(0, 1, 1), exit()}},
		{true, []api.Node{branch(0, 1, 1, constant(0, 0)), exit()}},
		{true, []api.Node{branch(0, 1, 1, constant(5, 0), copyOf(0, 5)), exit()}},

		// or of one in a node that dominates the using one.
		{true, []api.Node{jump(1, constant(0, 1)), exit(copyOf(1, 0))}},
		{true, []api.Node{jump(1, constant(0, 1)), jump(2), branch(0, 3, 3), exit(copyOf(1, 0))}},
		{false, []api.Node{jump(1, copyOf(0, 1)), exit(constant(1, 1))}},
		{false, []api.Node{branch(0, 1, 2, constant(0, 1)), jump(3, constant(1, 1)), jump(3), exit(copyOf(2, 1))}},
		{false, []api.Node{branch(0, 1, 2, constant(0, 1)), jump(3), jump(3, constant(1, 1)), branch(1, 4, 4), exit()}},
		{false, []api.Node{branch(0, 1, 2, constant(0, 1)), exit(constant(1, 1)), exit(copyOf(2, 1))}},
		{true, []api.Node{branch(0, 1, 2, constant(0, 1)), jump(3, constant(1, 1), copyOf(2, 1)), jump(3), exit(copyOf(3, 0))}},
		// a loop whose body uses what its condition assigns, and the other way round
		{true, []api.Node{jump(1), branch(0, 2, 3, constant(0, 1)), jump(1, copyOf(1, 0)), exit(copyOf(2, 0))}},
		{false, []api.Node{jump(1, constant(0, 1)), branch(0, 2, 3, copyOf(1, 2)), jump(1, constant(2, 0)), exit()}},
		{false, []api.Node{jump(1, constant(0, 1)), branch(0, 2, 3), jump(1, constant(2, 0)), exit(copyOf(1, 2))}},
		// What is assigned in a loop that is always entered may be used behind it.
		{true, []api.Node{jump(1, constant(0, 1)), branch(0, 1, 2, constant(2, 0)), exit(copyOf(1, 2))}},

		// Args of an IPhi are used at the ends of the predecessors.
		{true, []api.Node{branch(0, 1, 2, constant(0, 1)), jump(3, constant(1, 1)), jump(3, constant(2, 1)), exit(phi(3, 1, 2), copyOf(4, 3))}},
		{false, []api.Node{branch(0, 1, 2, constant(0, 1)), jump(3, constant(1, 1)), jump(3, constant(2, 1)), exit(phi(3, 2, 1))}},
		{false, []api.Node{branch(0, 1, 2, constant(0, 1)), jump(3, constant(1, 1)), jump(3, constant(2, 1)), exit(phi(3, 1, 1))}},
		{true, []api.Node{branch(0, 1, 2, constant(0, 1)), jump(3, constant(1, 1)), jump(3, constant(2, 1)), exit(phi(3, 0, 0))}},
		{true, []api.Node{branch(0, 1, 2, constant(0, 1)), jump(2, constant(1, 1)), exit(phi(3, 0, 1))}},
		{false, []api.Node{branch(0, 1, 2, constant(0, 1)), jump(2, constant(1, 1)), exit(phi(3, 1, 0))}},
		{false, []api.Node{branch(0, 1, 2, constant(0, 1)), jump(3), jump(3), exit(phi(3, 4, 0), constant(4, 0))}},
		{false, []api.Node{branch(0, 1, 2, constant(0, 1)), jump(3), jump(3), exit(phi(3, 0, 4))}},
		{false, []api.Node{branch(0, 1, 2, constant(0, 1)), jump(3), jump(3), exit(phi(3, 0, 3))}},
		{false, []api.Node{branch(0, 1, 2, constant(0, 1)), jump(3), jump(3), exit(phi(3, 0, 0), phi(4, 3, 0))}},
		{true, []api.Node{branch(0, 1, 1, constant(0, 1)), exit(phi(1, 0), phi(2, 0))}},
		// An IPhi of a loop may use what comes behind it, and any IPhi of its node.
		{true, []api.Node{jump(1, constant(0, 1)), branch(1, 2, 3, phi(1, 0, 2)), jump(1, binary(api.Sub, 2, 1, 0)), exit(copyOf(3, 1))}},
		{true, []api.Node{jump(1, constant(0, 1)), branch(1, 2, 3, phi(1, 0, 2), phi(2, 0, 1)), jump(1), exit()}},
		{true, []api.Node{jump(1, constant(0, 1)), branch(1, 2, 3, phi(1, 0, 1)), jump(1), exit()}},
		{true, []api.Node{jump(1, constant(0, 1)), branch(1, 1, 2, phi(1, 0, 3), phi(2, 0, 2), phi(4, 0, 1), constant(3, 0)), exit()}},
		{false, []api.Node{jump(1, constant(0, 1)), branch(1, 1, 2, phi(1, 2, 0), constant(2, 0)), exit()}},
		{true, []api.Node{jump(1, constant(0, 1)), jump(1, phi(1, 0, 1))}},
		{false, []api.Node{jump(1, constant(0, 1)), branch(1, 2, 3, phi(1, 0, 4)), jump(1), exit(constant(4, 1))}},
		// IPhis do not use each other's D where they stand.
		{false, []api.Node{jump(1, constant(0, 1)), exit(phi(1, 0), phi(2, 1))}},
		{true, []api.Node{jump(1, constant(0, 1)), exit(phi(1, 0), copyOf(2, 1))}},
	} {
		f := graph(x.nodes...)
		if got := ssa.InForm(f); got != x.want {
			t.Errorf("%d: %v: %t", i, x.nodes, got)
		}
		if flow.Valid(f) && refInForm(f) != x.want {
			t.Errorf("%d: the second definition says otherwise", i)
		}
	}
}

// TestBuildExamples checks what Build returns, but for the names of registers.
func TestBuildExamples(t *testing.T) {
	for i, x := range []struct{ nodes, want []api.Node }{
		{[]api.Node{exit()}, []api.Node{exit()}},
		{ // example 1
			[]api.Node{branch(9, 1, 2, special(9, api.Tid)), jump(3, constant(0, 1)), jump(3, constant(0, 2)), exit(store(0, 9, 0))},
			[]api.Node{branch(0, 1, 2, special(0, api.Tid)), jump(3, constant(1, 1)), jump(3, constant(2, 2)), exit(phi(3, 1, 2), store(0, 0, 3))},
		},
		{ // example 2
			[]api.Node{jump(1, constant(0, 0), constant(1, 1)), branch(3, 2, 3, param(2, 2), binary(api.Lt, 3, 0, 2)), jump(1, binary(api.Add, 0, 0, 1)), exit(store(0, 1, 0))},
			[]api.Node{jump(1, constant(0, 0), constant(1, 1)), branch(4, 2, 3, phi(2, 0, 5), param(3, 2), binary(api.Lt, 4, 2, 3)), jump(1, binary(api.Add, 5, 2, 1)), exit(store(0, 1, 2))},
		},
		{ // Names change in a node.
			[]api.Node{exit(constant(0, 1), binary(api.Add, 0, 0, 0), binary(api.Mul, 1, 0, 0), copyOf(0, 1), copyOf(1, 0), store(0, 1, 0))},
			[]api.Node{exit(constant(0, 1), binary(api.Add, 1, 0, 0), binary(api.Mul, 2, 1, 1), copyOf(3, 2), copyOf(4, 3), store(0, 4, 3))},
		},
		{ // Registers are 0 at first.
			[]api.Node{exit(store(0, 5, 3))},
			[]api.Node{exit(constant(0, 0), store(0, 0, 0))},
		},
		{
			[]api.Node{branch(4, 1, 2), jump(2, constant(3, 7)), exit(store(0, 3, 8))},
			[]api.Node{branch(0, 1, 2, constant(0, 0)), jump(2, constant(1, 7)), exit(phi(2, 0, 1), store(0, 2, 0))},
		},
		{ // Only those that are used are.
			[]api.Node{branch(4, 1, 2, constant(4, 1)), jump(2, constant(3, 7)), exit(constant(3, 2), store(0, 3, 4))},
			[]api.Node{branch(0, 1, 2, constant(0, 1)), jump(2, constant(1, 7)), exit(constant(2, 2), store(0, 2, 0))},
		},
		{ // No IPhi stands where the word is not used any more.
			[]api.Node{branch(4, 1, 2, constant(4, 1)), jump(3, constant(3, 7)), jump(3, constant(3, 8)), exit()},
			[]api.Node{branch(0, 1, 2, constant(0, 1)), jump(3, constant(1, 7)), jump(3, constant(2, 8)), exit()},
		},
		{ // An IPhi may be needed because of another one.
			[]api.Node{branch(0, 1, 2, constant(0, 1)), branch(0, 3, 4, constant(1, 1)), jump(5, constant(1, 2)), jump(4, constant(1, 3)), jump(5), exit(store(0, 1, 1))},
			[]api.Node{branch(0, 1, 2, constant(0, 1)), branch(0, 3, 4, constant(1, 1)), jump(5, constant(2, 2)), jump(4, constant(3, 3)), jump(5, phi(4, 1, 3)), exit(phi(5, 2, 4), store(0, 5, 5))},
		},
		{ // The Args stand for the predecessors, rising, whichever way leads from them.
			[]api.Node{branch(0, 3, 1, constant(0, 1), constant(1, 4)), jump(2, constant(1, 5)), branch(0, 4, 3, constant(1, 6)), exit(store(0, 1, 0)), jump(3)},
			[]api.Node{branch(0, 3, 1, constant(0, 1), constant(1, 4)), jump(2, constant(2, 5)), branch(0, 4, 3, constant(3, 6)), exit(phi(4, 1, 3, 3), store(0, 4, 0)), jump(3)},
		},
		{ // Both ways of a Branch are one predecessor.
			[]api.Node{branch(0, 1, 1, constant(0, 1)), branch(0, 1, 1, binary(api.Add, 0, 0, 0))},
			[]api.Node{branch(0, 1, 1, constant(0, 1)), branch(2, 1, 1, phi(1, 0, 2), binary(api.Add, 2, 1, 1))},
		},
		{ // What is assigned behind a Branch does not change what is used on its other way.
			[]api.Node{branch(0, 1, 2, constant(0, 1)), exit(constant(0, 2), store(0, 0, 0)), exit(store(0, 0, 0), constant(0, 3), store(0, 0, 0))},
			[]api.Node{branch(0, 1, 2, constant(0, 1)), exit(constant(1, 2), store(0, 1, 1)), exit(store(0, 0, 0), constant(2, 3), store(0, 2, 2))},
		},
		{ // two loops, one in the other one
			[]api.Node{jump(1, special(9, api.Dim)), branch(9, 2, 5), branch(9, 3, 4), jump(2, binary(api.Add, 0, 0, 9)), jump(1), exit(store(0, 0, 9))},
			[]api.Node{jump(1, constant(0, 0), special(1, api.Dim)), branch(1, 2, 5, phi(2, 0, 3)), branch(1, 3, 4, phi(3, 2, 4)), jump(2, binary(api.Add, 4, 3, 1)), jump(1), exit(store(0, 2, 1))},
		},
		{ // a circle that is entered at two nodes
			[]api.Node{branch(9, 1, 2, special(9, api.Tid)), jump(2, binary(api.Add, 0, 0, 9)), branch(0, 1, 3), exit(store(0, 9, 0))},
			[]api.Node{branch(1, 1, 2, constant(0, 0), special(1, api.Tid)), jump(2, phi(2, 0, 4), binary(api.Add, 3, 2, 1)), branch(4, 1, 3, phi(4, 0, 3)), exit(store(0, 1, 4))},
		},
	} {
		f := graph(x.nodes...)
		b := build(t, f)
		if !alike(t, b, graph(x.want...)) {
			t.Errorf("%d: %v", i, b.Nodes)
		}
		wantFew(t, f, b)
		for _, n := range b.Nodes {
			for _, in := range n.Instrs {
				if in.Kind == api.IPhi && len(in.Args) < 2 {
					t.Errorf("%d: %v", i, b.Nodes)
				}
			}
		}
	}
}

// TestBuildAll checks that the instructions stay as they are.
func TestBuildAll(t *testing.T) {
	f := graph(exit(constant(0, -5), copyOf(1, 0), unary(api.Zero, 2, 1), binary(api.Ult, 3, 2, 1), special(4, api.Grid), param(5, 2), load(6, 7, 5), store(1, 6, 4), atomic(api.Xor, 6, 3, 2), barrier(400), collect(api.Min, 7, 6, 3)))
	f.Name, f.Params[0].Name, f.Shared[1].Size = "other", "c", 64
	b := build(t, f)
	if c := compact(t, b); !sameFlow(c, compact(t, f)) || c.Regs != 8 {
		t.Errorf("%v: %v", f, b)
	}
}

func TestDefinitionsAndUses(t *testing.T) {
	for i, x := range []struct {
		nodes             []api.Node
		definitions, uses []int // of the first registers; the others are none, and are not used
	}{
		{[]api.Node{exit()}, nil, nil},
		{[]api.Node{exit(constant(1, 5))}, []int{-1, 0}, []int{0, 0}},
		{[]api.Node{exit(constant(0, 5), binary(api.Add, 2, 0, 0), store(0, 2, 0), barrier(0))}, []int{0, -1, 0}, []int{3, 0, 1}},
		{
			[]api.Node{branch(0, 1, 2, constant(0, 1)), jump(3, copyOf(3, 0)), jump(3, constant(1, 1)), exit(phi(2, 3, 1), load(4, 0, 2), atomic(api.Or, 1, 4, 2), collect(api.Add, 5, 4, 1))},
			[]int{0, 2, 3, 1, 3, 3},
			[]int{2, 1, 2, 1, 2, 0},
		},
		{
			[]api.Node{jump(1, constant(3, 1)), branch(0, 2, 3, phi(0, 3, 0), phi(1, 3, 0)), branch(0, 1, 1, unary(api.Not, 2, 3)), exit(special(4, api.Tid), param(5, 2))},
			[]int{1, 1, 2, 0, 3, 3},
			[]int{4, 0, 0, 3, 0, 0},
		},
	} {
		f := graph(x.nodes...)
		definitions, e := ssa.Definitions(f)
		want := slices.Concat(x.definitions, slices.Repeat([]int{-1}, 10-len(x.definitions)))
		if e != api.OK || !slices.Equal(definitions, want) {
			t.Errorf("%d: definitions %d, %d", i, definitions, e)
		}
		uses, e := ssa.Uses(f)
		want = slices.Concat(x.uses, make([]int, 10-len(x.uses)))
		if e != api.OK || !slices.Equal(uses, want) {
			t.Errorf("%d: uses %d, %d", i, uses, e)
		}
	}
	f := graph(exit())
	f.Regs = 0
	definitions, e := ssa.Definitions(f)
	uses, e2 := ssa.Uses(f)
	if e != api.OK || e2 != api.OK || len(definitions) > 0 || len(uses) > 0 {
		t.Errorf("%d, %d, %d, %d", definitions, e, uses, e2)
	}
}

func TestCompact(t *testing.T) { // P8.4
	for i, x := range []struct {
		nodes, want []api.Node
		regs        int
	}{
		{[]api.Node{exit()}, []api.Node{exit()}, 0},
		{[]api.Node{exit(barrier(3))}, []api.Node{exit(barrier(3))}, 0},
		{[]api.Node{exit(constant(9, 4))}, []api.Node{exit(constant(0, 4))}, 1},
		{[]api.Node{exit(constant(9, 4), constant(9, 5))}, []api.Node{exit(constant(0, 4), constant(0, 5))}, 1},
		// D, A, B, Args; then A of the Branch
		{[]api.Node{exit(binary(api.Sub, 3, 2, 1))}, []api.Node{exit(binary(api.Sub, 0, 1, 2))}, 3},
		{[]api.Node{exit(binary(api.Sub, 3, 2, 3), binary(api.Sub, 2, 9, 3))}, []api.Node{exit(binary(api.Sub, 0, 1, 0), binary(api.Sub, 1, 2, 0))}, 3},
		{[]api.Node{exit(store(0, 4, 3), atomic(api.Add, 1, 2, 4))}, []api.Node{exit(store(0, 0, 1), atomic(api.Add, 1, 2, 0))}, 3},
		{[]api.Node{exit(copyOf(5, 4), unary(api.Neg, 3, 2), load(9, 6, 8), collect(api.And, 7, 6, 5))}, []api.Node{exit(copyOf(0, 1), unary(api.Neg, 2, 3), load(4, 6, 5), collect(api.And, 6, 7, 5))}, 8},
		{[]api.Node{exit(special(2, api.Bid), param(1, 2))}, []api.Node{exit(special(0, api.Bid), param(1, 2))}, 2},
		{[]api.Node{branch(4, 1, 1, constant(7, 0)), branch(3, 1, 1, constant(4, 1))}, []api.Node{branch(1, 1, 1, constant(0, 0)), branch(2, 1, 1, constant(1, 1))}, 3},
		{[]api.Node{jump(1), branch(5, 1, 2, phi(8, 7, 6), phi(6, 9, 8)), exit(store(0, 5, 9))}, []api.Node{jump(1), branch(4, 1, 2, phi(0, 1, 2), phi(2, 3, 0)), exit(store(0, 4, 3))}, 5},
		// Register 0 does not occur in an unused field.
		{[]api.Node{exit(barrier(0), store(0, 1, 1), constant(0, 0))}, []api.Node{exit(barrier(0), store(0, 0, 0), constant(1, 0))}, 2},
		{[]api.Node{jump(1, constant(1, 0)), jump(2), exit(copyOf(0, 2))}, []api.Node{jump(1, constant(0, 0)), jump(2), exit(copyOf(1, 2))}, 3},
	} {
		want := graph(x.want...)
		want.Regs = x.regs
		if c := compact(t, graph(x.nodes...)); !sameFlow(c, want) {
			t.Errorf("%d: %v", i, c)
		}
		if c := compact(t, want); !sameFlow(c, want) {
			t.Errorf("%d: again: %v", i, c)
		}
	}
}
