package num_test

import (
	"testing"

	"drawloom/api"
)

// The wanted results are computed here with 64 bits or bit by bit, so that they do not share the program's way.

func wrap(a int64) int32 {
	a &= 1<<32 - 1
	if a >= 1<<31 {
		a -= 1 << 32
	}
	return int32(a)
}

func unsigned(a int32) int64 {
	if a < 0 {
		return int64(a) + 1<<32
	}
	return int64(a)
}

func one(holds bool) int32 {
	if holds {
		return 1
	}
	return 0
}

func wantArithmetic(op int, a, b int64) int32 {
	switch op {
	case api.Add:
		return wrap(a + b)
	case api.Sub:
		return wrap(a - b)
	case api.Mul:
		return wrap(a * b)
	}
	if b == 0 {
		return 0
	}
	quotient := max(a, -a) / max(b, -b)
	if (a < 0) != (b < 0) {
		quotient = -quotient
	}
	if op == api.Div {
		return wrap(quotient)
	}
	return wrap(a - quotient*b)
}

func wantBits(op int, a, b int32) int32 {
	word := int64(0)
	for i := range 32 {
		x, y := unsigned(a)>>i&1, unsigned(b)>>i&1
		bit := x * y
		if op == api.Or {
			bit = max(x, y)
		}
		if op == api.Xor {
			bit = (x + y) % 2
		}
		word += bit << i
	}
	return wrap(word)
}

func wantShift(op int, a, b int32) int32 {
	x := int64(a)
	if op == api.Ushr {
		x = unsigned(a)
	}
	for range unsigned(b) % 32 {
		if op == api.Shl {
			x = x * 2
		} else {
			x = (x - x&1) / 2
		}
	}
	return wrap(x)
}

func wantTruth(op int, a, b int64) int32 {
	switch op {
	case api.Lt:
		return one(a-b < 0)
	case api.Le:
		return one(a-b <= 0)
	case api.Eq:
		return one(a-b == 0)
	case api.Ne:
		return one(a-b != 0)
	case api.Ult:
		return one(unsigned(int32(a)) < unsigned(int32(b)))
	case api.Both:
		return one(a*b != 0)
	}
	return one(max(a, -a)+max(b, -b) != 0)
}

func wantBinary(op int, a, b int32) int32 {
	sum, gap := int64(a)+int64(b), int64(a)-int64(b)
	switch op {
	case api.Add, api.Sub, api.Mul, api.Div, api.Rem:
		return wantArithmetic(op, int64(a), int64(b))
	case api.And, api.Or, api.Xor:
		return wantBits(op, a, b)
	case api.Shl, api.Shr, api.Ushr:
		return wantShift(op, a, b)
	case api.Min:
		return wrap((sum - max(gap, -gap)) / 2)
	case api.Max:
		return wrap((sum + max(gap, -gap)) / 2)
	}
	return wantTruth(op, int64(a), int64(b))
}

func TestBinary(t *testing.T) {
	for op := range api.Binaries {
		pairs(func(a, b int32) {
			if got, want := binary(t, op, a, b), wantBinary(op, a, b); got != want {
				t.Errorf("Binary(%d, %d, %d) is %d, want %d", op, a, b, got, want)
			}
		})
	}
}

func TestUnary(t *testing.T) {
	for _, a := range words {
		equal(t, "Neg", unary(t, api.Neg, a), wrap(-int64(a)), a)
		equal(t, "Not", unary(t, api.Not, a), wrap(1<<32-1-unsigned(a)), a)
		equal(t, "Zero", unary(t, api.Zero, a), one(a == 0), a)
	}
}

func TestShiftDistances(t *testing.T) {
	for _, op := range []int{api.Shl, api.Shr, api.Ushr} {
		for b := int32(-70); b <= 70; b++ {
			for _, a := range words {
				equal(t, "a shift", binary(t, op, a, b), wantShift(op, a, b), a, b)
			}
		}
	}
}

func TestExamples(t *testing.T) {
	for _, x := range []struct {
		op         int
		a, b, want int32
	}{
		{api.Div, -7, 2, -3}, {api.Rem, -7, 2, -1}, {api.Div, 7, -2, -3}, {api.Rem, 7, -2, 1}, {api.Div, -7, -2, 3}, {api.Rem, -7, -2, -1},
		{api.Div, 5, 0, 0}, {api.Rem, 5, 0, 0}, {api.Div, least, 0, 0}, {api.Rem, least, 0, 0}, {api.Div, 0, 0, 0}, {api.Rem, 0, 0, 0},
		{api.Div, least, -1, least}, {api.Rem, least, -1, 0}, {api.Div, least, least, 1}, {api.Rem, greatest, least, greatest},
		{api.Add, greatest, 1, least}, {api.Sub, least, 1, greatest}, {api.Mul, 65536, 65536, 0}, {api.Mul, least, -1, least},
		{api.Shl, 1, 31, least}, {api.Shl, 1, 32, 1}, {api.Shl, 1, -1, least}, {api.Shl, 3, 31, least},
		{api.Shr, -8, 33, -4}, {api.Shr, -8, 32, -8}, {api.Shr, -1, -1, -1}, {api.Shr, least, 31, -1}, {api.Shr, 8, 2, 2},
		{api.Ushr, -1, 28, 15}, {api.Ushr, -1, 32, -1}, {api.Ushr, -1, 31, 1}, {api.Ushr, least, -1, 1},
		{api.Lt, -1, 1, 1}, {api.Lt, least, greatest, 1}, {api.Le, greatest, least, 0}, {api.Le, 2, 2, 1},
		{api.Ult, -1, 1, 0}, {api.Ult, 1, -1, 1}, {api.Ult, greatest, least, 1}, {api.Ult, -1, -1, 0},
		{api.Both, 1, 2, 1}, {api.Both, least, -1, 1}, {api.Both, 2, 0, 0}, {api.Both, 0, 2, 0}, {api.Both, 0, 0, 0},
		{api.Some, 1, -1, 1}, {api.Some, 2, 0, 1}, {api.Some, 0, least, 1}, {api.Some, 0, 0, 0},
		{api.Min, 3, -3, -3}, {api.Max, 3, -3, 3}, {api.Min, least, greatest, least}, {api.Max, least, greatest, greatest},
	} {
		if got := binary(t, x.op, x.a, x.b); got != x.want {
			t.Errorf("Binary(%d, %d, %d) is %d, want %d", x.op, x.a, x.b, got, x.want)
		}
	}
	equal(t, "Neg", unary(t, api.Neg, least), least, least)
	equal(t, "Not", unary(t, api.Not, least), greatest, least)
	equal(t, "Zero", unary(t, api.Zero, least), 0, least)
}
