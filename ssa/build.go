package ssa

import (
	"slices"

	"drawloom/api"
	"drawloom/graph"
	"drawloom/instr"
)

// initial is the name that every register has before it is assigned, if one is used there.
const initial = 0

// builder builds a flow graph in form from a valid one without IPhis. A register of the given one has a name for each instruction, or IPhi, that assigns it: a register of the one that is built.
type builder struct {
	tree
	f     api.Flow
	phis  [][]int // the registers for which a node gets IPhis, rising
	zero  bool    // whether a register is used before it is assigned
	nodes []api.Node
	names map[int][]int // those that a register has got in the node where the walk is, and in those that dominate it
	regs  int           // how many names there are
}

func newBuilder(f api.Flow) *builder {
	return &builder{tree: newTree(f), f: f, phis: make([][]int, len(f.Nodes)), names: map[int][]int{}}
}

// place decides which IPhis there will be. A register needs them in the iterated frontier of the nodes that assign it, but only where its word is used afterwards. It reports whether the limits are kept.
func (b *builder) place() bool {
	frontier, _ := graph.Frontier(b.after)
	items := size(b.f.Nodes)
	for r, v := range variables(b.f) {
		live := b.liveInto(v)
		if live[0] && !b.zero {
			b.zero = true
			items++
		}
		meets := spread(v.assigned, frontier, func(n int) bool { return live[n] })
		for n, is := range meets {
			if is {
				b.phis[n] = append(b.phis[n], r)
				items++
			}
		}
		if items > api.MaxCode {
			return false
		}
	}
	return true
}

// liveInto reports for each node whether the word that a register has before it may be used.
func (b *builder) liveInto(v variable) []bool {
	live := spread(v.read, b.before, func(n int) bool { return !v.assignedIn(n) })
	for _, n := range v.read {
		live[n] = true
	}
	return live
}

// build returns the flow graph that is built. The IPhis have been placed.
func (b *builder) build() api.Flow {
	for n, node := range b.f.Nodes {
		node.Instrs = slices.Concat(b.newPhis(n), node.Instrs)
		b.nodes = append(b.nodes, node)
	}
	if b.zero {
		b.regs = initial + 1
	}
	b.name(0)
	if b.zero {
		b.nodes[0].Instrs = slices.Insert(b.nodes[0].Instrs, 0, api.Instr{Kind: api.IConst, D: initial})
	}
	return api.Flow{Name: b.f.Name, Params: slices.Clone(b.f.Params), Shared: slices.Clone(b.f.Shared), Regs: b.regs, Nodes: b.nodes}
}

// newPhis returns the IPhis of a node, without names.
func (b *builder) newPhis(n int) []api.Instr {
	var l []api.Instr
	for _, r := range b.phis[n] {
		l = append(l, api.Instr{Kind: api.IPhi, D: r, Args: make([]int, len(b.before[n]))})
	}
	return l
}

// name names the registers of a node and of those that it dominates, and what their successors' IPhis use.
func (b *builder) name(n int) {
	node := &b.nodes[n]
	defer b.forget(assigned(*node))
	for i := range node.Instrs {
		x := &node.Instrs[i]
		if x.Kind != api.IPhi {
			*x = instr.Renamed(*x, b.latest)
		}
		if instr.Of(x.Kind).D {
			x.D = b.newName(x.D)
		}
	}
	if node.End == api.Branch {
		node.A = b.latest(node.A)
	}
	for _, to := range b.after[n] {
		k := b.arg(to, n)
		for i, r := range b.phis[to] {
			b.nodes[to].Instrs[i].Args[k] = b.latest(r)
		}
	}
	for _, next := range b.below[n] {
		b.name(next)
	}
}

// latest returns the name that a register has where the walk is.
func (b *builder) latest(r int) int {
	names := b.names[r]
	if len(names) == 0 {
		return initial
	}
	return names[len(names)-1]
}

// newName gives a register a new name.
func (b *builder) newName(r int) int {
	made := b.regs
	b.regs++
	b.names[r] = append(b.names[r], made)
	return made
}

// forget takes back the last name of registers.
func (b *builder) forget(registers []int) {
	for _, r := range registers {
		names := b.names[r]
		b.names[r] = names[:len(names)-1]
	}
}
