package ssa_test

import (
	"fmt"
	"slices"

	"drawloom/api"
)

// The chapter's terms once more, in the words of their definitions: each question is answered by looking for paths.

func refSuccessors(n api.Node) []int {
	switch n.End {
	case api.Jump:
		return []int{n.To}
	case api.Branch:
		return []int{n.To, n.Else}
	}
	return nil
}

func refPredecessors(f api.Flow, to int) []int {
	var l []int
	for i, n := range f.Nodes {
		if slices.Contains(refSuccessors(n), to) {
			l = append(l, i)
		}
	}
	return l
}

// refDominates returns for each pair of nodes whether a dominates b: b cannot be reached without a.
func refDominates(f api.Flow) [][]bool {
	all := make([][]bool, len(f.Nodes))
	for a := range f.Nodes {
		around := make([]bool, len(f.Nodes))
		around[0] = a != 0
		for again := true; again; {
			again = false
			for b, n := range f.Nodes {
				for _, to := range refSuccessors(n) {
					if around[b] && !around[to] && to != a {
						around[to], again = true, true
					}
				}
			}
		}
		for _, is := range around {
			all[a] = append(all[a], !is)
		}
	}
	return all
}

// refRegisters returns the registers of an instruction: D, if it has one, and those that it uses.
func refRegisters(x api.Instr) (d, uses []int) {
	switch x.Kind {
	case api.IConst, api.ISpecial, api.IParam:
		return []int{x.D}, nil
	case api.ICopy, api.IUnary, api.ILoad, api.ICollect:
		return []int{x.D}, []int{x.A}
	case api.IBinary:
		return []int{x.D}, []int{x.A, x.B}
	case api.IStore, api.IAtomic:
		return nil, []int{x.A, x.B}
	case api.IPhi:
		return []int{x.D}, x.Args
	}
	return nil, nil
}

// place is where a register is D or used: an instruction of a node. The end of the node is behind all of them.
type place struct {
	register, node, at int
}

// refPlaces returns all places at which registers of a flow graph are D, and all at which they are used. That of one of the Args of an IPhi is the end of a predecessor.
func refPlaces(f api.Flow) (definitions, uses []place) {
	for i, n := range f.Nodes {
		for j, x := range n.Instrs {
			d, used := refRegisters(x)
			for _, r := range d {
				definitions = append(definitions, place{r, i, j})
			}
			for k, r := range used {
				p := place{r, i, j}
				if x.Kind == api.IPhi {
					p.node = refPredecessors(f, i)[k]
					p.at = len(f.Nodes[p.node].Instrs)
				}
				uses = append(uses, p)
			}
		}
		if n.End == api.Branch {
			uses = append(uses, place{n.A, i, len(n.Instrs)})
		}
	}
	return definitions, uses
}

// refInForm reports whether a valid flow graph is in form.
func refInForm(f api.Flow) bool {
	definitions, uses := refPlaces(f)
	dominates := refDominates(f)
	for i, d := range definitions {
		if slices.ContainsFunc(definitions[:i], func(other place) bool { return other.register == d.register }) {
			return false
		}
	}
	for _, u := range uses {
		before := func(d place) bool {
			if d.node == u.node {
				return d.register == u.register && d.at < u.at
			}
			return d.register == u.register && dominates[d.node][u.node]
		}
		if !slices.ContainsFunc(definitions, before) {
			return false
		}
	}
	return true
}

// refDefinitions returns for each register of a flow graph in form the node in which it is a D, or -1.
func refDefinitions(f api.Flow) []int {
	l := slices.Repeat([]int{-1}, f.Regs)
	definitions, _ := refPlaces(f)
	for _, d := range definitions {
		l[d.register] = d.node
	}
	return l
}

// refUses returns how often each register of a flow graph is used.
func refUses(f api.Flow) []int {
	l := make([]int, f.Regs)
	_, uses := refPlaces(f)
	for _, u := range uses {
		l[u.register]++
	}
	return l
}

// refCompact returns a flow graph with other registers: those that occur are written down, and each one's number is its index in the list.
func refCompact(f api.Flow) api.Flow {
	f = copyFlow(f)
	var order []int
	mention := func(r int) int {
		if !slices.Contains(order, r) {
			order = append(order, r)
		}
		return slices.Index(order, r)
	}
	for i := range f.Nodes {
		n := &f.Nodes[i]
		for j := range n.Instrs {
			x := &n.Instrs[j]
			d, uses := refRegisters(*x)
			var named []int
			for _, r := range slices.Concat(d, uses) {
				named = append(named, mention(r))
			}
			if len(d) > 0 {
				x.D = named[0]
				named = named[1:]
			}
			switch {
			case x.Kind == api.IPhi:
				x.Args = named
			case len(named) == 2:
				x.A, x.B = named[0], named[1]
			case len(named) == 1:
				x.A = named[0]
			}
		}
		if n.End == api.Branch {
			n.A = mention(n.A)
		}
	}
	f.Regs = len(order)
	return f
}

// refPhis returns for each node the registers of a flow graph without IPhis that need an IPhi there: it is in the iterated frontier of the nodes that assign the register, and a path leads from it to a use of the register on which it is not assigned before.
func refPhis(f api.Flow) [][]int {
	definitions, _ := refPlaces(f)
	frontier := refFrontier(f)
	all := make([][]int, len(f.Nodes))
	for r := range f.Regs {
		from := map[int]bool{}
		for _, d := range definitions {
			if d.register == r {
				from[d.node] = true
			}
		}
		found := map[int]bool{}
		for again := true; again; {
			again = false
			for a := range f.Nodes {
				for _, b := range frontier[a] {
					if (from[a] || found[a]) && !found[b] {
						found[b], again = true, true
					}
				}
			}
		}
		live := refLive(f, r)
		for n := range f.Nodes {
			if found[n] && live[n] {
				all[n] = append(all[n], r)
			}
		}
	}
	return all
}

// refFrontier returns the frontier of each node.
func refFrontier(f api.Flow) [][]int {
	dominates := refDominates(f)
	all := make([][]int, len(f.Nodes))
	for a := range f.Nodes {
		for b := range f.Nodes {
			over := func(p int) bool { return dominates[a][p] }
			if slices.ContainsFunc(refPredecessors(f, b), over) && (!dominates[a][b] || a == b) {
				all[a] = append(all[a], b)
			}
		}
	}
	return all
}

// refLive returns for each node whether a register is used before it is assigned on a path from its beginning. There are no IPhis.
func refLive(f api.Flow, r int) []bool {
	live := make([]bool, len(f.Nodes))
	for again := true; again; {
		again = false
		for i, n := range f.Nodes {
			after := func(to int) bool { return live[to] }
			is := slices.ContainsFunc(refSuccessors(n), after) || n.End == api.Branch && n.A == r
			for _, x := range slices.Backward(n.Instrs) {
				d, uses := refRegisters(x)
				is = slices.Contains(uses, r) || is && !slices.Contains(d, r)
			}
			if is != live[i] {
				live[i], again = is, true
			}
		}
	}
	return live
}

// refTrace follows a path of a flow graph, whatever its words are: a Branch goes on to To if the next choice says so. It returns what happens on the path, with the words that are used: those of an IConst, and those that something that has happened has brought. Nodes from a number on are not counted; the path ends when so many others have been passed.
func refTrace(f api.Flow, choices []bool, nodes, most int) []string {
	words := map[int]string{}
	word := func(r int) string {
		if words[r] == "" {
			return "0" // as registers are initially
		}
		return words[r]
	}
	var trace []string
	from, at := -1, 0
	for {
		n := f.Nodes[at]
		if at < nodes {
			most--
		}
		if most < 0 {
			return trace
		}
		entered := map[int]string{}
		for _, x := range n.Instrs {
			if x.Kind == api.IPhi {
				entered[x.D] = word(x.Args[slices.Index(refPredecessors(f, at), from)])
			}
		}
		for d, w := range entered {
			words[d] = w
		}
		for _, x := range n.Instrs {
			switch x.Kind {
			case api.IPhi:
			case api.IConst:
				words[x.D] = fmt.Sprint(x.Imm)
			case api.ICopy:
				words[x.D] = word(x.A)
			default:
				d, uses := refRegisters(x)
				what := fmt.Sprint(x.Kind, x.Op, x.Imm)
				for _, r := range uses {
					what += " " + word(r)
				}
				trace = append(trace, what)
				for _, r := range d {
					words[r] = fmt.Sprint("#", len(trace))
				}
			}
		}
		from = at
		switch n.End {
		case api.Exit:
			return append(trace, "exit")
		case api.Jump:
			at = n.To
			continue
		}
		if len(choices) == 0 {
			return trace
		}
		trace = append(trace, "branch "+word(n.A))
		at = n.Else
		if choices[0] {
			at = n.To
		}
		choices = choices[1:]
	}
}
