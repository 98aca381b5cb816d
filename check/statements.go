package check

import "drawloom/api"

// list checks statements, whose variables are visible up to the end of their list.
func (c *checker) list(l []api.Stmt) api.Errno {
	c.enter()
	defer c.leave()
	return each(l, c.stmt)
}

func (c *checker) stmt(s api.Stmt) api.Errno {
	if !c.mayStand(s) {
		return api.ErrPlace
	}
	if e := c.target(s); e != api.OK {
		return e
	}
	if e := each(s.Exprs, c.expr); e != api.OK {
		return e
	}
	switch s.Kind {
	case api.SLet, api.SCollect:
		return c.declareWord(s.Name)
	case api.SIf:
		return c.branches(s)
	case api.SWhile:
		return c.loop(s)
	}
	return api.OK
}

// mayStand reports whether a statement is allowed at its position.
func (c *checker) mayStand(s api.Stmt) bool {
	switch s.Kind {
	case api.SBreak, api.SContinue:
		return c.loops > 0
	case api.SReturn:
		return c.inKernel == (len(s.Exprs) == 0)
	case api.SPut, api.SAtomic, api.SBarrier, api.SCollect:
		return c.inKernel
	}
	return true
}

// target checks the name of what a statement changes; not that of a declaration, which comes after its expression.
func (c *checker) target(s api.Stmt) api.Errno {
	switch s.Kind {
	case api.SSet:
		return c.want(s.Name, word)
	case api.SPut, api.SAtomic:
		return c.want(s.Name, cells)
	}
	return api.OK
}

// want checks that a name is visible and stands for something of a kind.
func (c *checker) want(name string, kind int) api.Errno {
	if c.find(name) != kind {
		return api.ErrName
	}
	return api.OK
}

// branches checks what an if leads to.
func (c *checker) branches(s api.Stmt) api.Errno {
	if e := c.list(s.Body); e != api.OK {
		return e
	}
	return c.list(s.Else)
}

// loop checks what a while repeats.
func (c *checker) loop(s api.Stmt) api.Errno {
	c.loops++
	defer func() { c.loops-- }()
	return c.list(s.Body)
}
