package syntax

import "drawloom/api"

func (p *parser) program() api.Program {
	var program api.Program
	for p.token().Kind != end {
		if p.sees("func") {
			f := p.function()
			program.Funcs = append(program.Funcs, f)
		} else {
			k := p.kernel()
			program.Kernels = append(program.Kernels, k)
		}
	}
	return program
}

func (p *parser) function() api.Func {
	p.want("func")
	name := p.name()
	params := list(p, p.name)
	body := p.block()
	return api.Func{Name: name, Params: params, Body: body}
}

func (p *parser) kernel() api.Kernel {
	p.want("kernel")
	name := p.name()
	params := list(p, p.param)
	p.want("{")
	shared := repeated(func() bool { return p.sees("shared") }, p.array)
	body := p.restOfBlock()
	return api.Kernel{Name: name, Params: params, Shared: shared, Body: body}
}

func (p *parser) param() api.Param {
	buffer := p.skip("buffer")
	if !buffer {
		p.want("int")
	}
	name := p.name()
	return api.Param{Name: name, Buffer: buffer}
}

func (p *parser) array() api.Array {
	p.want("shared")
	name := p.name()
	p.want("[")
	size := p.take(api.TInt).Int
	p.want("]")
	p.want(";")
	return api.Array{Name: name, Size: int(size)}
}

func (p *parser) block() []api.Stmt {
	p.want("{")
	return p.restOfBlock()
}

// restOfBlock reads statements up to the closing bracket of their block.
func (p *parser) restOfBlock() []api.Stmt {
	return repeated(func() bool { return !p.skip("}") }, p.statement)
}
