package num

import "drawloom/api"

// The ends of the range of words.
const (
	least    = -1 << 31
	greatest = 1<<31 - 1
)

// binary is a binary operator; neutral has a meaning only if it folds.
type binary struct {
	sign     string
	apply    func(a, b int32) int32
	commutes bool
	folds    bool
	neutral  int32
}

// findBinary returns the binary operator with the number op, and whether there is one.
func findBinary(op int) (binary, bool) {
	if op < 0 || op >= api.Binaries {
		return binary{}, false
	}
	table := [api.Binaries]binary{
		api.Add:  {sign: "+", apply: add, commutes: true, folds: true, neutral: 0},
		api.Sub:  {sign: "-", apply: sub},
		api.Mul:  {sign: "*", apply: mul, commutes: true},
		api.Div:  {sign: "/", apply: div},
		api.Rem:  {sign: "%", apply: rem},
		api.And:  {sign: "&", apply: and, commutes: true, folds: true, neutral: -1},
		api.Or:   {sign: "|", apply: or, commutes: true, folds: true, neutral: 0},
		api.Xor:  {sign: "^", apply: xor, commutes: true, folds: true, neutral: 0},
		api.Shl:  {sign: "<<", apply: shl},
		api.Shr:  {sign: ">>", apply: shr},
		api.Ushr: {sign: ">>>", apply: ushr},
		api.Lt:   {sign: "<", apply: lt},
		api.Le:   {sign: "<=", apply: le},
		api.Eq:   {sign: "==", apply: eq, commutes: true},
		api.Ne:   {sign: "!=", apply: ne, commutes: true},
		api.Ult:  {sign: "<:", apply: ult},
		api.Both: {sign: "&&", apply: both, commutes: true},
		api.Some: {sign: "||", apply: some, commutes: true},
		api.Min:  {sign: "min", apply: smaller, commutes: true, folds: true, neutral: greatest},
		api.Max:  {sign: "max", apply: greater, commutes: true, folds: true, neutral: least},
	}
	return table[op], true
}

func add(a, b int32) int32 { return a + b }

func sub(a, b int32) int32 { return a - b }

func mul(a, b int32) int32 { return a * b }

// div needs no case for the least word divided by -1: Go defines this quotient as the least word.
func div(a, b int32) int32 {
	if b == 0 {
		return 0
	}
	return a / b
}

// rem is 0 for a divisor of 0, although a - (a / 0) * 0 would be a: the chapter says so.
func rem(a, b int32) int32 {
	if b == 0 {
		return 0
	}
	return a % b
}

func and(a, b int32) int32 { return a & b }

func or(a, b int32) int32 { return a | b }

func xor(a, b int32) int32 { return a ^ b }

func shl(a, b int32) int32 { return a << distance(b) }

func shr(a, b int32) int32 { return a >> distance(b) }

func ushr(a, b int32) int32 { return int32(uint32(a) >> distance(b)) }

// distance returns how far a shift by b goes: Go shifts by the whole number and panics if it is negative.
func distance(b int32) uint32 { return uint32(b) & 31 }

func lt(a, b int32) int32 { return truth(a < b) }

func le(a, b int32) int32 { return truth(a <= b) }

func eq(a, b int32) int32 { return truth(a == b) }

func ne(a, b int32) int32 { return truth(a != b) }

func ult(a, b int32) int32 { return truth(uint32(a) < uint32(b)) }

func both(a, b int32) int32 { return truth(a != 0 && b != 0) }

func some(a, b int32) int32 { return truth(a != 0 || b != 0) }

func smaller(a, b int32) int32 { return min(a, b) }

func greater(a, b int32) int32 { return max(a, b) }

func truth(holds bool) int32 {
	if holds {
		return 1
	}
	return 0
}
