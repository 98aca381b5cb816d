package ssa_test

import (
	"math"
	"reflect"
	"slices"
	"testing"

	"drawloom/api"
	"drawloom/flow"
	"drawloom/ssa"
)

const (
	least    = math.MinInt32
	greatest = math.MaxInt32
)

// graph returns a flow graph with the buffers a and b, the integer n, the shared arrays s (3 cells) and r (5 cells), 10 registers, and some nodes.
func graph(nodes ...api.Node) api.Flow {
	return api.Flow{
		Name:   "k",
		Params: []api.Param{{Name: "a", Buffer: true}, {Name: "b", Buffer: true}, {Name: "n"}},
		Shared: []api.Array{{Name: "s", Size: 3}, {Name: "r", Size: 5}},
		Regs:   10,
		Nodes:  nodes,
	}
}

// exit returns a node with some instructions and an Exit.
func exit(instrs ...api.Instr) api.Node { return api.Node{Instrs: instrs, End: api.Exit} }

// jump returns a node with some instructions and a Jump.
func jump(to int, instrs ...api.Instr) api.Node {
	return api.Node{Instrs: instrs, End: api.Jump, To: to}
}

// branch returns a node with some instructions and a Branch.
func branch(a, to, other int, instrs ...api.Instr) api.Node {
	return api.Node{Instrs: instrs, End: api.Branch, A: a, To: to, Else: other}
}

// The instructions.

func constant(d int, word int32) api.Instr { return api.Instr{Kind: api.IConst, D: d, Imm: word} }

func copyOf(d, a int) api.Instr { return api.Instr{Kind: api.ICopy, D: d, A: a} }

func unary(op, d, a int) api.Instr { return api.Instr{Kind: api.IUnary, Op: op, D: d, A: a} }

func binary(op, d, a, b int) api.Instr {
	return api.Instr{Kind: api.IBinary, Op: op, D: d, A: a, B: b}
}

func special(d, op int) api.Instr { return api.Instr{Kind: api.ISpecial, Op: op, D: d} }

func param(d int, number int32) api.Instr { return api.Instr{Kind: api.IParam, D: d, Imm: number} }

func load(d int, array int32, a int) api.Instr {
	return api.Instr{Kind: api.ILoad, D: d, A: a, Imm: array}
}

func store(array int32, a, b int) api.Instr {
	return api.Instr{Kind: api.IStore, A: a, B: b, Imm: array}
}

func atomic(op int, array int32, a, b int) api.Instr {
	return api.Instr{Kind: api.IAtomic, Op: op, A: a, B: b, Imm: array}
}

func barrier(number int32) api.Instr { return api.Instr{Kind: api.IBarrier, Imm: number} }

func collect(op, d, a int, number int32) api.Instr {
	return api.Instr{Kind: api.ICollect, Op: op, D: d, A: a, Imm: number}
}

func phi(d int, args ...int) api.Instr { return api.Instr{Kind: api.IPhi, D: d, Args: args} }

// copyFlow returns a copy of a flow graph that shares no memory with it.
func copyFlow(f api.Flow) api.Flow {
	f.Params, f.Shared, f.Nodes = slices.Clone(f.Params), slices.Clone(f.Shared), slices.Clone(f.Nodes)
	for i := range f.Nodes {
		n := &f.Nodes[i]
		n.Instrs = slices.Clone(n.Instrs)
		for j := range n.Instrs {
			n.Instrs[j].Args = slices.Clone(n.Instrs[j].Args)
		}
	}
	return f
}

func sameFlow(a, b api.Flow) bool {
	return sameHead(a, b) && a.Regs == b.Regs && slices.EqualFunc(a.Nodes, b.Nodes, sameNode)
}

// sameHead reports whether two flow graphs have the same name, parameters and shared arrays.
func sameHead(a, b api.Flow) bool {
	return a.Name == b.Name && slices.Equal(a.Params, b.Params) && slices.Equal(a.Shared, b.Shared)
}

func sameNode(a, b api.Node) bool {
	return a.End == b.End && a.A == b.A && a.To == b.To && a.Else == b.Else && slices.EqualFunc(a.Instrs, b.Instrs, sameInstr)
}

func sameInstr(a, b api.Instr) bool {
	return a.Kind == b.Kind && a.Op == b.Op && a.D == b.D && a.A == b.A && a.B == b.B && a.Imm == b.Imm && slices.Equal(a.Args, b.Args)
}

func sameMem(a, b api.Mem) bool { return slices.EqualFunc(a, b, slices.Equal) }

// zero reports whether a result is a zero value; a slice may be empty.
func zero(x any) bool {
	v := reflect.ValueOf(x)
	return v.IsZero() || v.Kind() == reflect.Slice && v.Len() == 0
}

// size returns how many nodes and instructions a flow graph has.
func size(f api.Flow) int {
	sum := len(f.Nodes)
	for _, n := range f.Nodes {
		sum += len(n.Instrs)
	}
	return sum
}

// countPhis returns how many IPhis a flow graph has, and how many Args they have together.
func countPhis(f api.Flow) (phis, args int) {
	for _, n := range f.Nodes {
		for _, x := range n.Instrs {
			if x.Kind == api.IPhi {
				phis++
				args += len(x.Args)
			}
		}
	}
	return phis, args
}

// build returns what Build makes of a flow graph, and checks what the chapter says of the result's form.
func build(t *testing.T, f api.Flow) api.Flow {
	t.Helper()
	b, e := ssa.Build(f)
	if e != api.OK {
		t.Fatalf("%v: %d", f, e)
	}
	wantBuilt(t, f, b)
	wantAllRegs(t, b)
	return b
}

// wantAllRegs checks that all registers of a flow graph occur.
func wantAllRegs(t *testing.T, f api.Flow) {
	t.Helper()
	if refCompact(f).Regs != f.Regs {
		t.Fatalf("not all registers occur: %v", f)
	}
}

// leave returns what Leave makes of a flow graph, and checks what the chapter says of the result's form.
func leave(t *testing.T, f api.Flow) api.Flow {
	t.Helper()
	l, e := ssa.Leave(f)
	if e != api.OK {
		t.Fatalf("%v: %d", f, e)
	}
	if phis, _ := countPhis(l); phis > 0 || !flow.Valid(l) || !sameHead(f, l) {
		t.Fatalf("%v: %v", f, l)
	}
	wantAllRegs(t, l)
	return l
}

// compact returns what Compact makes of a flow graph.
func compact(t *testing.T, f api.Flow) api.Flow {
	t.Helper()
	c, e := ssa.Compact(f)
	if e != api.OK || !flow.Valid(c) {
		t.Fatalf("%v: %v, %d", f, c, e)
	}
	return c
}

// wantBuilt checks that b has the form that Build promises for f.
func wantBuilt(t *testing.T, f, b api.Flow) {
	t.Helper()
	if !ssa.InForm(b) || !refInForm(b) || !sameHead(f, b) || len(b.Nodes) != len(f.Nodes) {
		t.Fatalf("%v: %v", f, b)
	}
	for i, n := range b.Nodes {
		l := n.Instrs
		for len(l) > 0 && l[0].Kind == api.IPhi {
			l = l[1:]
		}
		if len(l) < len(n.Instrs) && len(refPredecessors(f, i)) < 2 {
			t.Fatalf("%v: an IPhi in node %d: %v", f, i, b)
		}
		for i == 0 && len(l) > len(f.Nodes[0].Instrs) && l[0].Kind == api.IConst {
			l = l[1:]
		}
		alike := func(x, y api.Instr) bool { return sameInstr(nameless(x), nameless(y)) }
		if !slices.EqualFunc(l, f.Nodes[i].Instrs, alike) || n.End != f.Nodes[i].End || n.To != f.Nodes[i].To || n.Else != f.Nodes[i].Else {
			t.Fatalf("%v: node %d: %v", f, i, b)
		}
	}
}

// nameless returns an instruction without registers.
func nameless(x api.Instr) api.Instr {
	x.D, x.A, x.B, x.Args = 0, 0, 0, nil
	return x
}

// added returns how many IConsts Build has added to a flow graph.
func added(f, b api.Flow) int { return len(b.Nodes[0].Instrs) - len(f.Nodes[0].Instrs) }
