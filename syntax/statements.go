package syntax

import "drawloom/api"

func (p *parser) statement() api.Stmt {
	switch {
	case p.skip("if"):
		return p.branch()
	case p.skip("while"):
		return p.loop()
	}
	s := p.simple()
	p.want(";")
	return s
}

// branch reads what follows an if.
func (p *parser) branch() api.Stmt {
	s := api.Stmt{Kind: api.SIf}
	s.Exprs = p.single()
	s.Body = p.block()
	if p.skip("else") {
		s.Else = p.block()
	}
	return s
}

// loop reads what follows a while.
func (p *parser) loop() api.Stmt {
	s := api.Stmt{Kind: api.SWhile}
	s.Exprs = p.single()
	s.Body = p.block()
	return s
}

// simple reads a statement without its semicolon.
func (p *parser) simple() api.Stmt {
	switch {
	case p.skip("let"):
		return p.let()
	case p.skip("break"):
		return api.Stmt{Kind: api.SBreak}
	case p.skip("continue"):
		return api.Stmt{Kind: api.SContinue}
	case p.skip("return"):
		return p.result()
	case p.skip("barrier"):
		return api.Stmt{Kind: api.SBarrier}
	case p.skip("atomic"):
		return p.atomic()
	case p.skip("collect"):
		return p.collect()
	}
	return p.assignment()
}

// let reads what follows a let.
func (p *parser) let() api.Stmt {
	s := api.Stmt{Kind: api.SLet}
	s.Name = p.name()
	p.want("=")
	s.Exprs = p.single()
	return s
}

// result reads what follows a return.
func (p *parser) result() api.Stmt {
	s := api.Stmt{Kind: api.SReturn}
	if !p.sees(";") {
		s.Exprs = p.single()
	}
	return s
}

// atomic reads what follows an atomic.
func (p *parser) atomic() api.Stmt {
	s := api.Stmt{Kind: api.SAtomic}
	s.Op = p.fold()
	s.Name = p.name()
	s.Exprs = p.cell(",")
	return s
}

// collect reads what follows a collect.
func (p *parser) collect() api.Stmt {
	s := api.Stmt{Kind: api.SCollect}
	s.Name = p.name()
	p.want("=")
	s.Op = p.fold()
	s.Exprs = p.single()
	return s
}

// assignment reads a statement that begins with the name of a variable or of an array.
func (p *parser) assignment() api.Stmt {
	s := api.Stmt{Kind: api.SSet}
	s.Name = p.name()
	if p.sees("[") {
		s.Kind = api.SPut
		s.Exprs = p.cell("=")
		return s
	}
	p.want("=")
	s.Exprs = p.single()
	return s
}

// cell reads an index in brackets, a sign, and an expression.
func (p *parser) cell(sign string) []api.Expr {
	p.want("[")
	index := p.expr()
	p.want("]")
	p.want(sign)
	word := p.expr()
	return []api.Expr{index, word}
}

// fold reads the word of an operator that folds.
func (p *parser) fold() int {
	for _, f := range folds {
		if p.skip(f.word) {
			return f.op
		}
	}
	panic(misfit)
}

// single reads the only expression of a statement.
func (p *parser) single() []api.Expr {
	e := p.expr()
	return []api.Expr{e}
}
