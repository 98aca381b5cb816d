package flow

import "drawloom/api"

// value returns a register that has the word of an expression; that of a variable is its own.
func (r routine) value(x api.Expr) int {
	if x.Kind == api.EName {
		return r.vars[x.Name]
	}
	d := r.register()
	r.into(x, d)
	return d
}

// into assigns the word of an expression to a register. The register keeps its word while the expression is evaluated, so that it may be one of its variables.
func (r routine) into(x api.Expr, d int) {
	made := api.Instr{D: d}
	switch x.Kind {
	case api.EInt:
		made.Kind, made.Imm = api.IConst, x.Int
	case api.EName:
		made.Kind, made.A = api.ICopy, r.vars[x.Name]
	case api.ESpecial:
		made.Kind, made.Op = api.ISpecial, x.Op
	case api.EUnary:
		made.Kind, made.Op = api.IUnary, x.Op
		made.A = r.value(x.Kids[0])
	case api.EBinary:
		made.Kind, made.Op = api.IBinary, x.Op
		made.A = r.value(x.Kids[0])
		made.B = r.value(x.Kids[1])
	case api.ELoad:
		made.Kind, made.Imm = api.ILoad, r.arrays[x.Name]
		made.A = r.value(x.Kids[0])
	case api.ECall:
		r.call(x, d)
		return
	}
	r.emit(made)
}

// call translates a call of a function: its parameters get their words, and its statements follow.
func (r routine) call(x api.Expr, d int) {
	if r.size > api.MaxCode { // It is in vain already; and calls in called functions may be too many to follow all of them.
		return
	}
	f := r.funcs[x.Name]
	called := routine{r.lowering, map[string]int{}}
	for i, param := range f.Params {
		word := r.register()
		r.into(x.Kids[i], word)
		called.vars[param] = word
	}
	after := r.node()
	called.list(f.Body, exits{leave: func(exprs []api.Expr) {
		called.into(exprs[0], d)
		r.jump(after)
	}})
	r.emit(api.Instr{Kind: api.IConst, D: d}) // A function that gets to its end returns 0.
	r.jump(after)
	r.enter(after)
}
