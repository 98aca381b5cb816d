// Package instr is no layer of its own: it says which registers the instructions of flow graphs have, for the layers that read and rename them.
package instr

import "drawloom/api"

// Registers is which registers a kind of instruction has.
type Registers struct{ D, A, B, Args bool }

// Of returns which registers a kind of instruction has: none if there is no such kind.
func Of(kind int) Registers {
	switch kind {
	case api.IConst, api.ISpecial, api.IParam:
		return Registers{D: true}
	case api.ICopy, api.IUnary, api.ILoad, api.ICollect:
		return Registers{D: true, A: true}
	case api.IBinary:
		return Registers{D: true, A: true, B: true}
	case api.IStore, api.IAtomic:
		return Registers{A: true, B: true}
	case api.IPhi:
		return Registers{D: true, Args: true}
	}
	return Registers{}
}

// Uses returns the registers that an instruction uses: A, B and Args, in this order.
func Uses(x api.Instr) []int {
	has := Of(x.Kind)
	var used []int
	if has.A {
		used = append(used, x.A)
	}
	if has.B {
		used = append(used, x.B)
	}
	if has.Args {
		used = append(used, x.Args...)
	}
	return used
}

// Renamed returns a copy of an instruction in which each register that it uses has another name. They are named in the order of Uses.
func Renamed(x api.Instr, name func(r int) int) api.Instr {
	has := Of(x.Kind)
	if has.A {
		x.A = name(x.A)
	}
	if has.B {
		x.B = name(x.B)
	}
	var args []int
	if has.Args {
		for _, r := range x.Args {
			args = append(args, name(r))
		}
	}
	x.Args = args
	return x
}

// Phis returns how many IPhis stand before all other instructions of a list.
func Phis(l []api.Instr) int {
	for i, x := range l {
		if x.Kind != api.IPhi {
			return i
		}
	}
	return len(l)
}
