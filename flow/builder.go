package flow

import "drawloom/api"

// none is the number of a node that there is not.
const none = -1

// builder is a flow graph under construction. Its instructions and ends become those of the node at; if there is none, nothing leads to them, and they are dropped.
type builder struct {
	nodes []api.Node
	at    int
	size  int // how many nodes and instructions there are
	regs  int
}

// register returns a new register.
func (b *builder) register() int {
	b.regs++
	return b.regs - 1
}

// node adds a node, which is to be entered and ended later.
func (b *builder) node() int {
	b.size++
	b.nodes = append(b.nodes, api.Node{})
	return len(b.nodes) - 1
}

func (b *builder) enter(node int) { b.at = node }

func (b *builder) add(x api.Instr) {
	if b.at != none {
		b.size++
		n := &b.nodes[b.at]
		n.Instrs = append(n.Instrs, x)
	}
}

func (b *builder) jump(to int) { b.end(api.Node{End: api.Jump, To: to}) }

func (b *builder) branch(a, to, other int) {
	b.end(api.Node{End: api.Branch, A: a, To: to, Else: other})
}

func (b *builder) exit() { b.end(api.Node{End: api.Exit}) }

// end gives the node its end.
func (b *builder) end(end api.Node) {
	if b.at != none {
		end.Instrs = b.nodes[b.at].Instrs
		b.nodes[b.at] = end
		b.at = none
	}
}

// meet goes on where this node and another one, which has no end yet, meet; there may be none of them.
func (b *builder) meet(other int) {
	if other == none {
		return
	}
	if b.at == none {
		b.enter(other)
		return
	}
	both := b.node()
	b.jump(both)
	b.enter(other)
	b.jump(both)
	b.enter(both)
}
