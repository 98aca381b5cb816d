package check

import "drawloom/api"

// expr checks an expression: what it says itself before its kids.
func (c *checker) expr(x api.Expr) api.Errno {
	if e := c.own(x); e != api.OK {
		return e
	}
	return each(x.Kids, c.expr)
}

// own checks an expression without its kids.
func (c *checker) own(x api.Expr) api.Errno {
	switch x.Kind {
	case api.EName:
		return c.want(x.Name, word)
	case api.ESpecial:
		return c.kernelOnly()
	case api.ELoad:
		if e := c.kernelOnly(); e != api.OK {
			return e
		}
		return c.want(x.Name, cells)
	case api.ECall:
		return c.call(x)
	}
	return api.OK
}

// kernelOnly checks that what may stand in kernels only stands in one.
func (c *checker) kernelOnly() api.Errno {
	if !c.inKernel {
		return api.ErrPlace
	}
	return api.OK
}

// call checks which function is called, and the number of its arguments.
func (c *checker) call(x api.Expr) api.Errno {
	params, ok := c.params[x.Name]
	if !ok {
		return api.ErrName
	}
	if params != len(x.Kids) {
		return api.ErrArg
	}
	return api.OK
}
