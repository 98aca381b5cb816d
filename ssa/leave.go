package ssa

import (
	"slices"

	"drawloom/api"
	"drawloom/flow"
	"drawloom/instr"
)

// leaver replaces the IPhis of a flow graph in form by copies on the edges to their nodes.
type leaver struct {
	f      api.Flow
	before [][]int // predecessors, before nodes are added
	spare  int     // a register that copies may use for a while
}

func newLeaver(f api.Flow) *leaver {
	before, _ := flow.Predecessors(f)
	l := &leaver{f: compact(f), before: before}
	l.spare = l.f.Regs
	return l
}

// leave replaces all IPhis. It reports whether the limits are kept; if it sees that they are not, it stops.
func (l *leaver) leave() bool {
	phis := l.takePhis()
	for n, before := range l.before {
		for k, p := range before {
			l.insert(p, n, inTurn(copies(phis[n], k), l.spare))
			if size(l.f.Nodes) > api.MaxCode {
				return false
			}
		}
	}
	return true
}

// takePhis removes the IPhis from the nodes, and returns those of each node.
func (l *leaver) takePhis() [][]api.Instr {
	var all [][]api.Instr
	for i := range l.f.Nodes {
		n := &l.f.Nodes[i]
		count := instr.Phis(n.Instrs)
		all = append(all, slices.Clone(n.Instrs[:count]))
		n.Instrs = slices.Delete(n.Instrs, 0, count)
	}
	return all
}

// insert lets a thread do copies where it goes from a node to another one, and only there.
func (l *leaver) insert(from, to int, copies []api.Instr) {
	if len(copies) == 0 {
		return
	}
	at := l.between(from, to)
	n := &l.f.Nodes[at]
	n.Instrs = append(n.Instrs, copies...)
	for _, x := range copies {
		l.f.Regs = max(l.f.Regs, x.D+1)
	}
}

// between returns a node at whose end a thread always goes from a node to another one: that node, or a new one.
func (l *leaver) between(from, to int) int {
	n := &l.f.Nodes[from]
	if n.End == api.Jump {
		return from
	}
	added := len(l.f.Nodes)
	if n.To == to {
		n.To = added
	}
	if n.Else == to {
		n.Else = added
	}
	l.f.Nodes = append(l.f.Nodes, api.Node{End: api.Jump, To: to})
	return added
}

// copies returns what IPhis do, all at once, if their node is entered from its predecessor k.
func copies(phis []api.Instr, k int) []api.Instr {
	var l []api.Instr
	for _, x := range phis {
		if x.D != x.Args[k] {
			l = append(l, api.Instr{Kind: api.ICopy, D: x.D, A: x.Args[k]})
		}
	}
	return l
}

// inTurn returns copies that do one after the other what copies to different registers do all at once. A copy comes when no other one still needs the word that it overwrites.
func inTurn(copies []api.Instr, spare int) []api.Instr {
	needs := map[int]int{} // how many copies still need the word of a register
	for _, x := range copies {
		needs[x.A]++
	}
	var done []api.Instr
	for len(copies) > 0 {
		i := slices.IndexFunc(copies, func(x api.Instr) bool { return needs[x.D] == 0 })
		if i < 0 {
			// The copies that are left go round in circles. One is opened: its word waits in the spare register.
			first := &copies[0]
			done = append(done, api.Instr{Kind: api.ICopy, D: spare, A: first.A})
			needs[first.A]--
			first.A = spare
			continue
		}
		needs[copies[i].A]--
		done = append(done, copies[i])
		copies = slices.Delete(copies, i, i+1)
	}
	return done
}
