package check

import "drawloom/api"

// checker looks for the first violation of a valid program. Its methods return the first one of what they check.
type checker struct {
	scopes
	taken    map[string]bool // the names of functions and kernels so far
	params   map[string]int  // the functions that may be called, with their numbers of parameters
	inKernel bool
	loops    int // how many SWhile are around
}

// firstViolation returns the first violation of a valid program, with the name of the function or kernel in which it is.
func firstViolation(p api.Program) (string, api.Errno) {
	c := &checker{taken: map[string]bool{}, params: map[string]int{}}
	for _, f := range p.Funcs {
		if e := c.function(f); e != api.OK {
			return f.Name, e
		}
	}
	c.inKernel = true
	for _, k := range p.Kernels {
		if e := c.kernel(k); e != api.OK {
			return k.Name, e
		}
	}
	return "", api.OK
}

func (c *checker) function(f api.Func) api.Errno {
	if e := c.take(f.Name); e != api.OK {
		return e
	}
	c.enter()
	defer c.leave()
	if e := each(f.Params, c.declareWord); e != api.OK {
		return e
	}
	if e := c.list(f.Body); e != api.OK {
		return e
	}
	c.params[f.Name] = len(f.Params) // only now, since a function does not call itself
	return api.OK
}

func (c *checker) kernel(k api.Kernel) api.Errno {
	if e := c.take(k.Name); e != api.OK {
		return e
	}
	c.enter()
	defer c.leave()
	if e := each(k.Params, c.declareParam); e != api.OK {
		return e
	}
	if e := each(k.Shared, c.declareArray); e != api.OK {
		return e
	}
	return c.list(k.Body)
}

// take gives a name to a function or a kernel, unless another one has it.
func (c *checker) take(name string) api.Errno {
	if c.taken[name] {
		return api.ErrTwice
	}
	c.taken[name] = true
	return api.OK
}

func (c *checker) declareParam(p api.Param) api.Errno {
	if p.Buffer {
		return c.declare(p.Name, cells)
	}
	return c.declareWord(p.Name)
}

func (c *checker) declareArray(a api.Array) api.Errno { return c.declare(a.Name, cells) }

// declareWord declares a variable or an integer parameter.
func (c *checker) declareWord(name string) api.Errno { return c.declare(name, word) }

// each returns the first violation of some items.
func each[T any](items []T, check func(item T) api.Errno) api.Errno {
	for _, item := range items {
		if e := check(item); e != api.OK {
			return e
		}
	}
	return api.OK
}
