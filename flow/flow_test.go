package flow_test

import (
	"math"
	"reflect"
	"slices"
	"testing"

	"drawloom/api"
	"drawloom/flow"
	"drawloom/syntax"
)

const (
	least    = math.MinInt32
	greatest = math.MaxInt32
)

var folds = []int{api.Add, api.Min, api.Max, api.And, api.Or, api.Xor}

// program returns the program of a source.
func program(t *testing.T, s string) api.Program {
	t.Helper()
	p, at, e := syntax.Parse(s)
	if e != api.OK {
		t.Fatalf("%q: %d, %d", s, at, e)
	}
	return p
}

// lower returns the flow graph of the kernel k.
func lower(t *testing.T, p api.Program) api.Flow {
	t.Helper()
	f, e := flow.Lower(p, "k")
	if e != api.OK || !flow.Valid(f) {
		t.Fatalf("%v: %v, %d", p, f, e)
	}
	return f
}

// launch returns a launch of the kernel k.
func launch(grid, block int, args ...int32) api.Launch {
	return api.Launch{Kernel: "k", Grid: grid, Block: block, Args: args}
}

// run performs a launch of a flow graph, whose threads may do many steps.
func run(t *testing.T, f api.Flow, l api.Launch, m api.Mem, turns ...int) api.Run {
	t.Helper()
	return runMost(t, f, l, m, 100000, turns...)
}

func runMost(t *testing.T, f api.Flow, l api.Launch, m api.Mem, most int, turns ...int) api.Run {
	t.Helper()
	r, e := flow.Run(f, l, m, turns, most)
	if e != api.OK {
		t.Fatalf("%v, %v, %v, %d: %d", f, l, m, most, e)
	}
	return r
}

// graph returns a flow graph with the buffers a and b, the integer n, the shared arrays s (3 cells) and r (5 cells), 10 registers, and some nodes.
func graph(nodes ...api.Node) api.Flow {
	return api.Flow{
		Name:   "k",
		Params: []api.Param{{Name: "a", Buffer: true}, {Name: "b", Buffer: true}, {Name: "n"}},
		Shared: []api.Array{{Name: "s", Size: 3}, {Name: "r", Size: 5}},
		Regs:   10,
		Nodes:  nodes,
	}
}

// exit returns a node with some instructions and an Exit.
func exit(instrs ...api.Instr) api.Node { return api.Node{Instrs: instrs, End: api.Exit} }

// jump returns a node with some instructions and a Jump.
func jump(to int, instrs ...api.Instr) api.Node {
	return api.Node{Instrs: instrs, End: api.Jump, To: to}
}

// branch returns a node with some instructions and a Branch.
func branch(a, to, other int, instrs ...api.Instr) api.Node {
	return api.Node{Instrs: instrs, End: api.Branch, A: a, To: to, Else: other}
}

// The instructions.

func constant(d int, word int32) api.Instr { return api.Instr{Kind: api.IConst, D: d, Imm: word} }

func special(d, op int) api.Instr { return api.Instr{Kind: api.ISpecial, Op: op, D: d} }

func binary(op, d, a, b int) api.Instr {
	return api.Instr{Kind: api.IBinary, Op: op, D: d, A: a, B: b}
}

func load(d int, array int32, a int) api.Instr {
	return api.Instr{Kind: api.ILoad, D: d, A: a, Imm: array}
}

func store(array int32, a, b int) api.Instr {
	return api.Instr{Kind: api.IStore, A: a, B: b, Imm: array}
}

func atomic(op int, array int32, a, b int) api.Instr {
	return api.Instr{Kind: api.IAtomic, Op: op, A: a, B: b, Imm: array}
}

func barrier(number int32) api.Instr { return api.Instr{Kind: api.IBarrier, Imm: number} }

func collect(op, d, a int, number int32) api.Instr {
	return api.Instr{Kind: api.ICollect, Op: op, D: d, A: a, Imm: number}
}

func phi(d int, args ...int) api.Instr { return api.Instr{Kind: api.IPhi, D: d, Args: args} }

// equal reports whether two runs are the same.
func equal(a, b api.Run) bool {
	return a.End == b.End && a.Steps == b.Steps && slices.Equal(a.Races, b.Races) && sameMem(a.Mem, b.Mem)
}

func sameMem(a, b api.Mem) bool { return slices.EqualFunc(a, b, slices.Equal) }

// cells returns a buffer of cells that are 0.
func cells(n int) []int32 { return make([]int32, n) }

// zero reports whether a result is a zero value; a slice may be empty.
func zero(x any) bool {
	v := reflect.ValueOf(x)
	return v.IsZero() || v.Kind() == reflect.Slice && v.Len() == 0
}

// copyFlow returns a copy of a flow graph that shares no memory with it.
func copyFlow(f api.Flow) api.Flow {
	f.Params, f.Shared, f.Nodes = slices.Clone(f.Params), slices.Clone(f.Shared), slices.Clone(f.Nodes)
	for i := range f.Nodes {
		n := &f.Nodes[i]
		n.Instrs = slices.Clone(n.Instrs)
		for j := range n.Instrs {
			n.Instrs[j].Args = slices.Clone(n.Instrs[j].Args)
		}
	}
	return f
}

func sameFlow(a, b api.Flow) bool {
	return a.Name == b.Name && a.Regs == b.Regs && slices.Equal(a.Params, b.Params) && slices.Equal(a.Shared, b.Shared) && slices.EqualFunc(a.Nodes, b.Nodes, sameNode)
}

func sameNode(a, b api.Node) bool {
	return a.End == b.End && a.A == b.A && a.To == b.To && a.Else == b.Else && slices.EqualFunc(a.Instrs, b.Instrs, sameInstr)
}

func sameInstr(a, b api.Instr) bool {
	return a.Kind == b.Kind && a.Op == b.Op && a.D == b.D && a.A == b.A && a.B == b.B && a.Imm == b.Imm && slices.Equal(a.Args, b.Args)
}
