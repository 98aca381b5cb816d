package flow

import (
	"drawloom/api"
	"drawloom/check"
)

// lowering is a kernel on its way to a flow graph.
type lowering struct {
	builder
	emit   func(x api.Instr)
	name   string
	funcs  map[string]api.Func
	arrays map[string]int32 // what Imm is for each array
	met    int              // how many barriers and collects came before
}

// routine is the part of a kernel that is translated with variables of its own: the kernel's statements, or those of a function for one call of it.
type routine struct {
	*lowering
	vars map[string]int // their registers
}

// exits are where statements may lead, apart from the next one: they end the node as an SContinue, an SBreak and an SReturn do.
type exits struct {
	again, after func()
	leave        func(exprs []api.Expr)
}

// lower returns the flow graph of a kernel, which may exceed the limits.
func lower(k api.Kernel, funcs []api.Func) api.Flow {
	l := &lowering{name: k.Name, funcs: map[string]api.Func{}, arrays: map[string]int32{}}
	l.emit = l.add
	for _, f := range funcs {
		l.funcs[f.Name] = f
	}
	l.enter(l.node())
	r := routine{l, map[string]int{}}
	r.params(k)
	r.list(k.Body, exits{leave: func([]api.Expr) { l.exit() }})
	l.exit()
	return api.Flow{Name: k.Name, Params: k.Params, Shared: k.Shared, Regs: l.regs, Nodes: l.nodes}
}

// params makes the parameters and the shared arrays known.
func (r routine) params(k api.Kernel) {
	for i, p := range k.Params {
		if p.Buffer {
			r.arrays[p.Name] = int32(i)
			continue
		}
		d := r.register()
		r.vars[p.Name] = d
		r.emit(api.Instr{Kind: api.IParam, D: d, Imm: int32(i)})
	}
	for i, a := range k.Shared {
		r.arrays[a.Name] = int32(api.MaxParams + i)
	}
}

// list translates statements, up to the one behind which nothing leads on.
func (r routine) list(l []api.Stmt, to exits) {
	for i, s := range l {
		if r.at == none {
			r.met += check.Barriers(api.Kernel{Name: r.name, Body: l[i:]})
			return
		}
		r.stmt(s, to)
	}
}

func (r routine) stmt(s api.Stmt, to exits) {
	switch s.Kind {
	case api.SLet:
		d := r.register()
		r.into(s.Exprs[0], d)
		r.vars[s.Name] = d
	case api.SSet:
		r.into(s.Exprs[0], r.vars[s.Name])
	case api.SPut:
		r.change(api.Instr{Kind: api.IStore}, s)
	case api.SAtomic:
		r.change(api.Instr{Kind: api.IAtomic, Op: s.Op}, s)
	case api.SIf:
		r.choice(s, to)
	case api.SWhile:
		r.loop(s, to)
	case api.SBreak:
		to.after()
	case api.SContinue:
		to.again()
	case api.SReturn:
		to.leave(s.Exprs)
	case api.SBarrier:
		r.emit(api.Instr{Kind: api.IBarrier, Imm: r.number()})
	case api.SCollect:
		r.collect(s)
	}
}

// number returns the number of the next barrier or collect.
func (l *lowering) number() int32 {
	l.met++
	return int32(l.met - 1)
}

// change translates what changes a cell.
func (r routine) change(x api.Instr, s api.Stmt) {
	x.A = r.value(s.Exprs[0])
	x.B = r.value(s.Exprs[1])
	x.Imm = r.arrays[s.Name]
	r.emit(x)
}

func (r routine) collect(s api.Stmt) {
	a, d := r.value(s.Exprs[0]), r.register()
	r.vars[s.Name] = d
	r.emit(api.Instr{Kind: api.ICollect, Op: s.Op, D: d, A: a, Imm: r.number()})
}

func (r routine) choice(s api.Stmt, to exits) {
	a := r.value(s.Exprs[0])
	then, other := r.node(), r.node()
	r.branch(a, then, other)
	r.enter(then)
	r.list(s.Body, to)
	end := r.at
	r.enter(other)
	r.list(s.Else, to)
	r.meet(end)
}

func (r routine) loop(s api.Stmt, to exits) {
	again := r.node()
	r.jump(again)
	r.enter(again)
	a := r.value(s.Exprs[0])
	body, after := r.node(), r.node()
	r.branch(a, body, after)
	r.enter(body)
	to.again = func() { r.jump(again) }
	to.after = func() { r.jump(after) }
	r.list(s.Body, to)
	r.jump(again)
	r.enter(after)
}
