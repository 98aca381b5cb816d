package syntax

import "drawloom/api"

func (p *parser) expr() api.Expr { return p.levels(1) }

// levels reads an expression of a level: the operators outside of its brackets are of this level or of higher ones.
func (p *parser) levels(lowest int) api.Expr {
	left := p.unary()
	for {
		o, ok := infixOf(p.token().Text)
		if !ok || o.level < lowest {
			return left
		}
		p.want(o.sign)
		right := p.levels(o.level + 1)
		left = o.tree(left, right)
	}
}

// tree returns the expression of an operator with what stands on its left and on its right.
func (o infix) tree(left, right api.Expr) api.Expr {
	if o.turned {
		left, right = right, left
	}
	return api.Expr{Kind: api.EBinary, Op: o.op, Kids: []api.Expr{left, right}}
}

func (p *parser) unary() api.Expr {
	for op, sign := range prefixes {
		if p.skip(sign) {
			kid := p.unary()
			return api.Expr{Kind: api.EUnary, Op: op, Kids: []api.Expr{kid}}
		}
	}
	return p.primary()
}

func (p *parser) primary() api.Expr {
	switch {
	case p.token().Kind == api.TInt:
		return api.Expr{Kind: api.EInt, Int: p.take(api.TInt).Int}
	case p.token().Kind == api.TName:
		return p.named()
	case p.skip("("):
		e := p.expr()
		p.want(")")
		return e
	case p.skip("min"):
		return p.pair(api.Min)
	case p.skip("max"):
		return p.pair(api.Max)
	}
	return p.special()
}

// named reads an expression that begins with a name: a variable, a cell or a call.
func (p *parser) named() api.Expr {
	name := p.name()
	switch {
	case p.skip("["):
		index := p.expr()
		p.want("]")
		return api.Expr{Kind: api.ELoad, Name: name, Kids: []api.Expr{index}}
	case p.sees("("):
		kids := list(p, p.expr)
		return api.Expr{Kind: api.ECall, Name: name, Kids: kids}
	}
	return api.Expr{Kind: api.EName, Name: name}
}

// pair reads the two operands of min or max.
func (p *parser) pair(op int) api.Expr {
	p.want("(")
	a := p.expr()
	p.want(",")
	b := p.expr()
	p.want(")")
	return api.Expr{Kind: api.EBinary, Op: op, Kids: []api.Expr{a, b}}
}

func (p *parser) special() api.Expr {
	for op, word := range specials {
		if p.skip(word) {
			return api.Expr{Kind: api.ESpecial, Op: op}
		}
	}
	panic(misfit)
}
