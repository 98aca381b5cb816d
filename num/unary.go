package num

import "drawloom/api"

// unary is a unary operator.
type unary struct {
	sign  string
	apply func(a int32) int32
}

// findUnary returns the unary operator with the number op, and whether there is one.
func findUnary(op int) (unary, bool) {
	if op < 0 || op >= api.Unaries {
		return unary{}, false
	}
	table := [api.Unaries]unary{
		api.Neg:  {sign: "-", apply: neg},
		api.Not:  {sign: "~", apply: not},
		api.Zero: {sign: "!", apply: zero},
	}
	return table[op], true
}

func neg(a int32) int32 { return 0 - a }

func not(a int32) int32 { return ^a }

func zero(a int32) int32 { return truth(a == 0) }
