package ssa_test

import (
	"math"
	"slices"
	"testing"

	"drawloom/api"
	"drawloom/flow"
	"drawloom/ssa"
)

// call is a call of a function of package ssa.
type call struct {
	name string
	run  func(f api.Flow) (any, api.Errno)
}

func callOf[T any](name string, f func(f api.Flow) (T, api.Errno)) call {
	return call{name, func(x api.Flow) (any, api.Errno) { return f(x) }}
}

var calls = []call{
	callOf("Build", ssa.Build),
	callOf("Leave", ssa.Leave),
	callOf("Definitions", ssa.Definitions),
	callOf("Uses", ssa.Uses),
	callOf("Compact", ssa.Compact),
}

// wantErrors checks which errors the calls return, in their order.
func wantErrors(t *testing.T, f api.Flow, want ...api.Errno) {
	t.Helper()
	for i, c := range calls {
		x, e := c.run(f)
		if e != want[i] {
			t.Errorf("%s of %v: %d, want %d", c.name, f, e, want[i])
		}
		if e != api.OK && !zero(x) {
			t.Errorf("%s of %v: %v with %d", c.name, f, x, e)
		}
	}
}

// TestNotValid checks that flow graphs that are not valid yield ErrForm, whatever else is wrong with them.
func TestNotValid(t *testing.T) {
	form := slices.Repeat([]api.Errno{api.ErrForm}, len(calls))
	good := graph(branch(0, 1, 2, constant(0, 1)), jump(2), exit(phi(1, 0, 0)))
	change := func(change func(f *api.Flow)) api.Flow {
		f := copyFlow(good)
		change(&f)
		return f
	}
	for _, f := range []api.Flow{
		{},
		graph(),
		graph(exit(constant(10, 0))),
		graph(exit(constant(-1, 0))),
		graph(exit(api.Instr{Kind: api.IKinds})),
		graph(exit(api.Instr{Kind: -1})),
		graph(jump(0)),
		graph(jump(1)),
		graph(exit(), exit()),
		graph(exit(phi(0))),
		change(func(f *api.Flow) { f.Name = "" }),
		change(func(f *api.Flow) { f.Name = "let" }),
		change(func(f *api.Flow) { f.Params[0].Name = "b" }),
		change(func(f *api.Flow) { f.Shared[0].Size = 0 }),
		change(func(f *api.Flow) { f.Regs = 2001 }),
		change(func(f *api.Flow) { f.Regs = math.MaxInt }),
		change(func(f *api.Flow) { f.Regs = -1 }),
		change(func(f *api.Flow) { f.Regs = 1 }),
		change(func(f *api.Flow) { f.Nodes[2].Instrs[0].Args = []int{0} }),
		change(func(f *api.Flow) { f.Nodes[2].Instrs[0].Args = []int{0, 0, 0} }),
		change(func(f *api.Flow) { f.Nodes[2].Instrs[0].Args[1] = 10 }),
		change(func(f *api.Flow) { f.Nodes[2].Instrs[0].Args[1] = math.MinInt }),
		change(func(f *api.Flow) { f.Nodes[2].Instrs[0].A = 1 }),
		change(func(f *api.Flow) { f.Nodes[2].Instrs = append([]api.Instr{barrier(0)}, f.Nodes[2].Instrs...) }),
		change(func(f *api.Flow) { f.Nodes[2].Instrs = append(f.Nodes[2].Instrs, phi(1, 0, 0)) }),
		change(func(f *api.Flow) { f.Nodes[2].A = 1 }),
		change(func(f *api.Flow) { f.Nodes[0].Instrs[0].Args = []int{0} }),
		change(func(f *api.Flow) { f.Nodes[0].To = 3 }),
		change(func(f *api.Flow) { f.Nodes[0].Else = math.MaxInt }),
		change(func(f *api.Flow) { f.Nodes[1].Instrs = slices.Repeat([]api.Instr{barrier(0)}, 1996) }),
	} {
		if flow.Valid(f) {
			t.Errorf("%v is valid", f)
		}
		if ssa.InForm(f) {
			t.Errorf("%v is in form", f)
		}
		wantErrors(t, f, form...)
	}
	wantErrors(t, good, api.ErrArg, api.OK, api.OK, api.OK, api.OK)
}

// TestErrors checks the errors for valid flow graphs.
func TestErrors(t *testing.T) {
	for _, x := range []struct {
		nodes []api.Node
		want  []api.Errno
	}{
		{[]api.Node{exit()}, []api.Errno{api.OK, api.OK, api.OK, api.OK, api.OK}},
		{[]api.Node{exit(constant(3, 1), store(0, 3, 3))}, []api.Errno{api.OK, api.OK, api.OK, api.OK, api.OK}},
		// not in form
		{[]api.Node{exit(copyOf(0, 1))}, []api.Errno{api.OK, api.ErrForm, api.ErrForm, api.ErrForm, api.OK}},
		{[]api.Node{exit(constant(0, 1), constant(0, 1))}, []api.Errno{api.OK, api.ErrForm, api.ErrForm, api.ErrForm, api.OK}},
		// with an IPhi, in form and not
		{[]api.Node{jump(1, constant(0, 1)), exit(phi(1, 0))}, []api.Errno{api.ErrArg, api.OK, api.OK, api.OK, api.OK}},
		{[]api.Node{jump(1), exit(phi(1, 0))}, []api.Errno{api.ErrArg, api.ErrForm, api.ErrForm, api.ErrForm, api.OK}},
		{[]api.Node{branch(0, 1, 2), exit(), jump(3), exit(phi(2, 2))}, []api.Errno{api.ErrArg, api.ErrForm, api.ErrForm, api.ErrForm, api.OK}},
	} {
		wantErrors(t, graph(x.nodes...), x.want...)
	}
	f := tooMany(7)
	f.Nodes = append(f.Nodes[:3:3], exit(append([]api.Instr{phi(1999, 0, 0)}, f.Nodes[3].Instrs[1:]...)...))
	if !flow.Valid(f) {
		t.Fatal("not valid")
	}
	wantErrors(t, f, api.ErrArg, api.ErrForm, api.ErrForm, api.ErrForm, api.OK)
}

// TestArguments checks that flow graphs are neither changed nor kept, and that results are new.
func TestArguments(t *testing.T) {
	for seed := range 400 {
		m := newMaker(seed)
		given := m.graph()
		if seed%2 > 0 {
			given = m.inForm(seed%4 > 1)
		}
		spread(&given)
		f := copyFlow(given)
		for _, c := range append(slices.Clone(calls), callOf("InForm", func(f api.Flow) (bool, api.Errno) { return ssa.InForm(f), api.OK })) {
			first, _ := c.run(given)
			want, _ := c.run(given)
			if !sameFlow(f, given) {
				t.Fatalf("%s has changed %v: %v", c.name, f, given)
			}
			spoil(first)
			if again, _ := c.run(given); !same(again, want) || !sameFlow(f, given) {
				t.Fatalf("%s of %v: %v, then %v", c.name, f, want, again)
			}
			kept, _ := c.run(given)
			spoil(given)
			if !same(kept, want) {
				t.Fatalf("%s of %v: %v has become %v", c.name, f, want, kept)
			}
			given = copyFlow(f)
			spread(&given)
		}
	}
}

// TestApart checks that the slices of a result share no memory.
func TestApart(t *testing.T) {
	for seed := range 400 {
		m := newMaker(seed)
		for i, f := range []api.Flow{build(t, m.graph()), leave(t, m.inForm(true)), compact(t, m.inForm(true))} {
			want := copyFlow(f)
			for j := range f.Nodes {
				l := f.Nodes[j].Instrs
				for k := range l {
					_ = append(l[k].Args, 9999)
				}
				_ = append(l, barrier(77), barrier(77), barrier(77))
			}
			_ = append(f.Nodes, exit(barrier(77)), exit())
			if !sameFlow(f, want) {
				t.Fatalf("%d: %v has become %v", i, want, f)
			}
		}
	}
}

// spread gives the slices of a flow graph more room than they need: what is appended to one of them is seen in the next one.
func spread(f *api.Flow) {
	var all []api.Instr
	for _, n := range f.Nodes {
		all = append(all, n.Instrs...)
	}
	at := 0
	for i := range f.Nodes {
		n := &f.Nodes[i]
		count := len(n.Instrs)
		n.Instrs = all[at : at+count]
		at += count
	}
	var args []int
	for _, x := range all {
		args = append(args, x.Args...)
	}
	at = 0
	for i := range all {
		count := len(all[i].Args)
		all[i].Args = args[at : at+count]
		at += count
	}
}

// spoil overwrites the memory of a result or an argument.
func spoil(x any) {
	switch v := x.(type) {
	case []int:
		for i := range v {
			v[i] = -7
		}
	case api.Flow:
		for i := range v.Params {
			v.Params[i] = api.Param{Name: "spoilt"}
		}
		for i := range v.Shared {
			v.Shared[i].Size = -7
		}
		for i := range v.Nodes {
			for j := range v.Nodes[i].Instrs {
				spoil(v.Nodes[i].Instrs[j].Args)
				v.Nodes[i].Instrs[j] = api.Instr{Kind: -7}
			}
			v.Nodes[i] = api.Node{End: -7}
		}
	}
}

// same reports whether two results are the same.
func same(a, b any) bool {
	switch x := a.(type) {
	case []int:
		return slices.Equal(x, b.([]int))
	case api.Flow:
		return sameFlow(x, b.(api.Flow))
	}
	return a == b
}

// TestEmptySlices checks that nil and empty slices are the same.
func TestEmptySlices(t *testing.T) {
	with := graph(jump(1, constant(0, 1)), exit(copyOf(1, 0)))
	with.Params, with.Shared, with.Nodes[1].Instrs = nil, nil, nil
	without := copyFlow(with)
	without.Params, without.Shared, without.Nodes[1].Instrs = []api.Param{}, []api.Array{}, []api.Instr{}
	without.Nodes[0].Instrs[0].Args = []int{}
	for _, c := range calls {
		a, e := c.run(with)
		b, e2 := c.run(without)
		if e != api.OK || e2 != api.OK || !same(a, b) {
			t.Errorf("%s: %v, %d; %v, %d", c.name, a, e, b, e2)
		}
	}
}
