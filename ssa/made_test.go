package ssa_test

import (
	"slices"
	"testing"

	"drawloom/api"
	"drawloom/flow"
	"drawloom/ssa"
)

// wantPaths checks that the same things happen on paths of two flow graphs, of which the second one has been made from the first one.
func wantPaths(t *testing.T, m *maker, f, g api.Flow) {
	t.Helper()
	for range 8 {
		choices := m.choices(1 + m.Intn(25))
		want := refTrace(f, choices, len(f.Nodes), 60)
		if got := refTrace(g, choices, len(f.Nodes), 60); !slices.Equal(got, want) {
			t.Fatalf("%v by %v: %v: %q, want %q", f, choices, g, got, want)
		}
	}
}

// TestBuildMade checks what Build makes of made flow graphs.
func TestBuildMade(t *testing.T) { // P8.2, P8.3
	several, looped, unassigned := 0, 0, 0
	for seed := range 6000 {
		m := newMaker(seed)
		f := m.graph()
		b := build(t, f)
		wantPaths(t, m, f, b)
		wantFew(t, f, b)
		if phis, _ := countPhis(b); phis > 3 {
			several++
		}
		if usesItself(b) {
			looped++
		}
		unassigned += added(f, b)
	}
	if several < 800 || looped < 200 || unassigned < 2000 {
		t.Errorf("only %d with several IPhis, %d with IPhis that use themselves, %d with words that were not assigned", several, looped, unassigned)
	}
}

// swaps reports whether an IPhi uses the D of another IPhi of its node.
func swaps(f api.Flow) bool {
	for _, n := range f.Nodes {
		var phis []int
		for _, x := range n.Instrs {
			if x.Kind == api.IPhi {
				phis = append(phis, x.D)
			}
		}
		for _, x := range n.Instrs {
			if slices.ContainsFunc(x.Args, func(r int) bool { return r != x.D && slices.Contains(phis, r) }) {
				return true
			}
		}
	}
	return false
}

// usesItself reports whether an IPhi uses its D.
func usesItself(f api.Flow) bool {
	return slices.ContainsFunc(f.Nodes, func(n api.Node) bool {
		return slices.ContainsFunc(n.Instrs, func(x api.Instr) bool { return slices.Contains(x.Args, x.D) })
	})
}

// wantFew checks that each IPhi of b, built from f, stands for a register of f that needs it there, and that its Args stand for the same register; that all other registers stand for those of f; and that 0 is added only if it is needed.
func wantFew(t *testing.T, f, b api.Flow) {
	t.Helper()
	stands := standFor(f, b)
	for i, want := range refPhis(f) {
		var got []int
		for _, x := range b.Nodes[i].Instrs {
			if x.Kind != api.IPhi {
				break
			}
			r, ok := stands[x.D]
			if !ok {
				t.Fatalf("%v: %v stands for nothing: %v", f, x, b)
			}
			for _, arg := range x.Args {
				if old, ok := stands[arg]; !ok && arg != b.Nodes[0].Instrs[0].D || ok && old != r {
					t.Fatalf("%v: %v uses another register: %v", f, x, b)
				}
			}
			got = append(got, r)
		}
		slices.Sort(got)
		if !slices.Equal(got, want) {
			t.Fatalf("%v: node %d has IPhis of %d, want %d: %v", f, i, got, want, b)
		}
	}
	zeros := 0
	for r := range f.Regs {
		if refLive(f, r)[0] {
			zeros = 1
		}
	}
	if added(f, b) != zeros {
		t.Fatalf("%v: %d IConsts more: %v", f, added(f, b), b)
	}
}

// standFor returns for the registers of b, built from f, the registers of f for which they stand; without that of an additional IConst.
func standFor(f, b api.Flow) map[int]int {
	stands := map[int]int{}
	var phis []api.Instr
	for i, n := range f.Nodes {
		l := b.Nodes[i].Instrs
		more := len(l) - len(n.Instrs)
		if i > 0 {
			phis = append(phis, l[:more]...)
		}
		for j, x := range l[more:] {
			if d, _ := refRegisters(x); len(d) > 0 {
				stands[x.D] = n.Instrs[j].D
			}
		}
	}
	for range phis {
		for _, x := range phis {
			for _, arg := range x.Args {
				if r, ok := stands[arg]; ok {
					stands[x.D] = r
				}
			}
		}
	}
	return stands
}

// TestLeaveMade checks what Leave makes of made flow graphs in form, and what Build makes of that.
func TestLeaveMade(t *testing.T) { // P8.2, P8.5
	swapped, split, spared := 0, 0, 0
	for seed := range 6000 {
		m := newMaker(seed)
		f := m.inForm(true)
		if !ssa.InForm(f) || !refInForm(f) {
			t.Fatalf("%v", f)
		}
		l := leave(t, f)
		wantPaths(t, m, f, l)
		b := build(t, l)
		wantPaths(t, m, f, b)
		wantPaths(t, m, f, leave(t, b))
		if swaps(f) {
			swapped++
		}
		if len(l.Nodes) > len(f.Nodes) {
			split++
		}
		if l.Regs > compact(t, f).Regs {
			spared++
		}
	}
	if swapped < 1000 || split < 1500 || spared < 100 {
		t.Errorf("only %d with IPhis that use each other, %d with new nodes, %d with a register more", swapped, split, spared)
	}
}

// TestInFormMade compares InForm for flow graphs with some damage with the second definition.
func TestInFormMade(t *testing.T) {
	is, isNot, invalid := 0, 0, 0
	for seed := range 8000 {
		m := newMaker(seed)
		f := m.inForm(seed%4 > 0)
		if m.Intn(4) == 0 {
			f = build(t, m.graph())
		}
		for range m.Intn(4) {
			m.damage(&f)
		}
		want := flow.Valid(f) && refInForm(f)
		if got := ssa.InForm(f); got != want {
			t.Fatalf("%v: %t", f, got)
		}
		switch {
		case want:
			is++
		case flow.Valid(f):
			isNot++
		default:
			invalid++
		}
	}
	if is < 2000 || isNot < 1000 || invalid < 1000 {
		t.Errorf("only %d in form, %d not in form, %d not valid", is, isNot, invalid)
	}
}

// TestCountsMade compares Definitions and Uses of made flow graphs with the second definition.
func TestCountsMade(t *testing.T) {
	for seed := range 2000 {
		f := newMaker(seed).inForm(seed%4 > 0)
		definitions, e := ssa.Definitions(f)
		if e != api.OK || !slices.Equal(definitions, refDefinitions(f)) {
			t.Fatalf("%v: %d, %d", f, definitions, e)
		}
		uses, e := ssa.Uses(f)
		if e != api.OK || !slices.Equal(uses, refUses(f)) {
			t.Fatalf("%v: %d, %d", f, uses, e)
		}
	}
}

// TestCompactMade compares Compact of made flow graphs with the second definition.
func TestCompactMade(t *testing.T) { // P8.4
	changed := 0
	for seed := range 3000 {
		m := newMaker(seed)
		f := m.graph()
		if seed%2 > 0 {
			f = m.inForm(true)
		}
		if n := m.Intn(3); n > 0 { // Some valid flow graphs have IPhis, but are not in form.
			for damaged := copyFlow(f); ; damaged = copyFlow(f) {
				m.damage(&damaged)
				if flow.Valid(damaged) {
					f = damaged
					break
				}
			}
		}
		c := compact(t, f)
		if want := refCompact(f); !sameFlow(c, want) {
			t.Fatalf("%v: %v, want %v", f, c, want)
		}
		if again := compact(t, c); !sameFlow(again, c) {
			t.Fatalf("%v: %v, then %v", f, c, again)
		}
		wantPaths(t, m, f, c)
		if !sameFlow(c, f) {
			changed++
		}
	}
	if changed < 2000 {
		t.Errorf("only %d have changed", changed)
	}
}
