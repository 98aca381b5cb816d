package ssa_test

import (
	"slices"
	"testing"

	"drawloom/api"
	"drawloom/flow"
	"drawloom/ssa"
)

// barriers returns so many barriers.
func barriers(n int) []api.Instr { return slices.Repeat([]api.Instr{barrier(0)}, n) }

// tooMany returns a flow graph of which Build makes one of 1998 nodes and instructions, 664 of them IPhis and one an additional IConst, and so many more.
func tooMany(more int) api.Flow {
	f := graph(branch(1999, 1, 2, constant(1999, 1)), jump(3), jump(3), exit(barriers(more)...))
	f.Regs = 2000
	for r := range 664 {
		f.Nodes[1].Instrs = append(f.Nodes[1].Instrs, constant(3*r, int32(r)))
		f.Nodes[3].Instrs = append(f.Nodes[3].Instrs, store(0, 3*r, 3*r))
	}
	return f
}

// TestBuildSize checks the greatest results of Build.
func TestBuildSize(t *testing.T) {
	if b := build(t, tooMany(2)); size(b) != 2000 {
		t.Errorf("%d", size(b))
	}
	for _, more := range []int{3, 4, 100, 600} {
		wantErrors(t, tooMany(more), api.ErrSize, api.ErrForm, api.ErrForm, api.ErrForm, api.OK)
	}
	// The same without an additional IConst.
	both := func(more int) api.Flow {
		f := graph(branch(0, 1, 2, constant(0, 1)), jump(3), jump(3), exit(barriers(more)...))
		f.Regs = 1000
		for r := range 498 {
			f.Nodes[1].Instrs = append(f.Nodes[1].Instrs, constant(r+1, int32(r)))
			f.Nodes[2].Instrs = append(f.Nodes[2].Instrs, copyOf(r+1, 0))
			f.Nodes[3].Instrs = append(f.Nodes[3].Instrs, unary(api.Neg, 600, r+1))
		}
		return f
	}
	if b := build(t, both(3)); size(b) != 2000 || b.Regs != 1+4*498 {
		t.Errorf("%d, %d", size(b), b.Regs)
	}
	wantErrors(t, both(4), api.ErrSize, api.ErrForm, api.ErrForm, api.ErrForm, api.OK)
	// Only the additional IConst exceeds the limit.
	f := graph(exit(append(barriers(1998), store(0, 0, 0))...))
	wantErrors(t, f, api.ErrSize, api.ErrForm, api.ErrForm, api.ErrForm, api.OK)
	f.Nodes[0].Instrs = f.Nodes[0].Instrs[1:]
	if b := build(t, f); size(b) != 2000 {
		t.Errorf("%d", size(b))
	}
	f.Nodes[0].Instrs = append(barriers(1998), constant(0, 1))
	if b := build(t, f); size(b) != 2000 {
		t.Errorf("%d", size(b))
	}
}

// TestBuildSmall builds flow graphs of 20 nodes and 60 instructions that need as many IPhis as possible: all registers are assigned on one of two ways, and used at last.
func TestBuildSmall(t *testing.T) {
	for used := range 41 {
		f := graph(branch(0, 1, 2, constant(0, 1)))
		f.Regs = 2000
		for i := 1; i < 18; i++ {
			f.Nodes = append(f.Nodes, branch(0, i+1, min(i+2, 18)))
		}
		f.Nodes = append(f.Nodes, branch(0, 2, 19), exit())
		for r := range 60 - 1 - used {
			f.Nodes[1].Instrs = append(f.Nodes[1].Instrs, constant(1999-r, 2))
		}
		for r := range used {
			f.Nodes[19].Instrs = append(f.Nodes[19].Instrs, store(0, 1999-2*r, 1998-2*r))
		}
		b := build(t, f)
		if phis, _ := countPhis(b); used == 20 && phis < 300 {
			t.Errorf("only %d IPhis", phis)
		}
		if used == 20 {
			wantFew(t, f, b)
		}
	}
}

// TestLeaveSize checks the greatest results of Leave.
func TestLeaveSize(t *testing.T) {
	// phis returns so many IPhis of two Args.
	phis := func(n int) []api.Instr {
		var l []api.Instr
		for r := range n {
			l = append(l, phi(r+1, 0, 0))
		}
		return l
	}
	for i, x := range []func(more int) api.Flow{
		func(more int) api.Flow { // 5 and 1994 copies
			return graph(branch(0, 1, 2, constant(0, 1)), jump(3), jump(3), exit(slices.Concat(phis(997), barriers(more))...))
		},
		func(more int) api.Flow { // 4, a new node, and 1994 copies
			return graph(branch(0, 1, 2, constant(0, 1)), jump(2), exit(slices.Concat(phis(997), barriers(more))...))
		},
		func(more int) api.Flow { // 1994, 5 copies
			return graph(jump(1, constant(0, 1), constant(1, 1)), jump(1, slices.Concat([]api.Instr{phi(2, 0, 3), phi(3, 1, 2)}, barriers(1990+more))...))
		},
	} {
		f := x(1)
		f.Regs = 2000
		if l := leave(t, f); size(l) != 2000 {
			t.Errorf("%d: %d", i, size(l))
		}
		for _, more := range []int{2, 3} {
			f = x(more)
			f.Regs = 1000
			wantErrors(t, f, api.ErrArg, api.ErrSize, api.OK, api.OK, api.OK)
		}
	}
}

// TestLeaveSmall leaves flow graphs of 100 nodes and 300 instructions, with 598 Args, whose results are as large as possible: two edges lead from each node to others with IPhis, whose words are exchanged.
func TestLeaveSmall(t *testing.T) {
	f := graph(jump(1, constant(0, 1)))
	f.Regs = 2000
	d := 1
	for i := 1; i < 99; i++ {
		n := branch(0, i, i+1)
		for range 3 {
			n.Instrs = append(n.Instrs, phi(2*d, 0, 2*(d+1)))
			d++
		}
		n.Instrs[2].Args[1] = 2 * (d - 3)
		f.Nodes = append(f.Nodes, n)
	}
	f.Nodes[98].Instrs = append(f.Nodes[98].Instrs, phi(1, 0, 3), phi(3, 0, 5), phi(5, 0, 7), phi(7, 0, 1))
	f.Nodes = append(f.Nodes, exit(store(0, 0, 0)))
	if phis, args := countPhis(f); !ssa.InForm(f) || len(f.Nodes) != 100 || size(f) != 400 || phis != 298 || args != 596 {
		t.Fatalf("%d, %d, %d", size(f), phis, args)
	}
	l := leave(t, f)
	wantPaths(t, newMaker(1), f, l)
	if size(l) < 990 {
		t.Errorf("%d", size(l))
	}
	build(t, l)
}

// TestManyArgs checks flow graphs whose IPhis have very many Args.
func TestManyArgs(t *testing.T) {
	f := graph(branch(0, 999, 1, constant(0, 1)))
	f.Regs = 2000
	for i := 1; i < 999; i++ {
		f.Nodes = append(f.Nodes, branch(0, 999, min(i+1, 998)))
	}
	var l []api.Instr
	for r := range 998 {
		l = append(l, phi(r+1, make([]int, 999)...))
	}
	f.Nodes = append(f.Nodes, exit(append(l, store(0, 0, 998))...))
	if !flow.Valid(f) || size(f) != 2000 {
		t.Fatalf("%d", size(f))
	}
	wantErrors(t, f, api.ErrArg, api.ErrSize, api.OK, api.OK, api.OK)
	if c := compact(t, f); c.Regs != 999 {
		t.Errorf("%d", c.Regs)
	}
	uses, _ := ssa.Uses(f)
	if uses[0] != 998*999+999+1 || uses[998] != 1 || uses[997] != 0 {
		t.Errorf("%d", uses[0])
	}
	f.Nodes[999].Instrs[997].Args[998] = 1
	if ssa.InForm(f) {
		t.Error("in form")
	}
	wantErrors(t, f, api.ErrArg, api.ErrForm, api.ErrForm, api.ErrForm, api.OK)
	// IPhis of a node that leads to itself keep all words but one.
	for r := range 998 {
		f.Nodes[999].Instrs[r].Args = slices.Repeat([]int{r + 1}, 1000)
		f.Nodes[999].Instrs[r].Args[0] = 0
	}
	for i := 1; i < 999; i++ {
		f.Nodes[i] = branch(0, 1, i+1)
	}
	f.Nodes[0] = jump(1, constant(0, 1))
	f.Nodes[1].Instrs, f.Nodes[999].Instrs = f.Nodes[999].Instrs[:998], []api.Instr{store(0, 0, 998)}
	for r := range 998 {
		f.Nodes[1].Instrs[r].Args = f.Nodes[1].Instrs[r].Args[:999]
	}
	if left := leave(t, f); size(left) != 2000 {
		t.Errorf("%d", size(left))
	}
}

// TestLong checks flow graphs of 2000 nodes and instructions in which the dominators are many.
func TestLong(t *testing.T) {
	f := graph(jump(1))
	for i := 1; i < 1996; i++ {
		f.Nodes = append(f.Nodes, jump(i+1))
	}
	f.Nodes = append(f.Nodes, exit(store(0, 0, 0)))
	f.Nodes[0].Instrs = []api.Instr{constant(0, 1), constant(0, 2)}
	if b := build(t, f); size(b) != 2000 || b.Regs != 2 {
		t.Errorf("%d", size(b))
	}
	// a loop around a loop around a loop: each node needs an IPhi
	f = graph(jump(1))
	f.Regs = 1
	for i := 1; i < 665; i++ {
		f.Nodes = append(f.Nodes, jump(i+1))
	}
	for i := 665; i < 1329; i++ {
		f.Nodes = append(f.Nodes, branch(0, 1329-i, i+1))
	}
	f.Nodes = append(f.Nodes, exit())
	f.Nodes[664].Instrs = []api.Instr{unary(api.Not, 0, 0)}
	if b := build(t, f); size(b) != 1330+1+1+664 {
		t.Errorf("%d", size(b))
	}
	f.Nodes[664].Instrs = append(f.Nodes[664].Instrs, barriers(5)...)
	wantErrors(t, f, api.ErrSize, api.ErrForm, api.ErrForm, api.ErrForm, api.OK)
	// Many registers need many IPhis.
	f.Regs = 660
	f.Nodes[664].Instrs = nil
	for r := range 660 {
		f.Nodes[664].Instrs = append(f.Nodes[664].Instrs, unary(api.Not, r, r))
	}
	wantErrors(t, f, api.ErrSize, api.ErrForm, api.ErrForm, api.ErrForm, api.OK)
}
