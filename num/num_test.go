package num_test

import (
	"math"
	"slices"
	"testing"

	"drawloom/api"
	"drawloom/num"
)

const (
	least    = math.MinInt32
	greatest = math.MaxInt32
)

// words are the words of which all pairs are tested: those beside the places where arithmetic wraps, shifts repeat and signs change, and some ordinary ones.
var words = []int32{
	least, least + 1, -1000000007, -65537, -65536, -64, -33, -32, -31, -8, -7, -3, -2, -1,
	0, 1, 2, 3, 5, 7, 16, 31, 32, 33, 63, 64, 255, 65535, 65536, 123456789, 0x55555555, 1 << 30, greatest - 1, greatest,
}

// few are the words of which all triples and lists are tested.
var few = []int32{least, least + 1, -65536, -7, -1, 0, 1, 2, 46341, 65537, 0x55555555, greatest}

// folding are the operators that fold, neutrals their neutral words.
var (
	folding  = []int{api.Add, api.Min, api.Max, api.And, api.Or, api.Xor}
	neutrals = []int32{0, greatest, least, -1, 0, 0}
)

// noBinary are numbers of no binary operator; some would be one if they were cut to fewer bits.
var noBinary = []int{-1, -2, -api.Binaries, api.Binaries, api.Binaries + 1, 100, 256, 256 + api.Min, -256 + api.Add, 1 << 32, 1<<32 + api.Max, math.MinInt, math.MaxInt}

// noUnary are numbers of no unary operator.
var noUnary = []int{-1, -2, -api.Unaries, api.Unaries, api.Unaries + 1, 100, 256, 256 + api.Not, -256 + api.Neg, 1 << 32, 1<<32 + api.Zero, math.MinInt, math.MaxInt}

func binary(t *testing.T, op int, a, b int32) int32 {
	t.Helper()
	got, ok := num.Binary(op, a, b)
	if !ok {
		t.Fatalf("Binary(%d, %d, %d): no operator", op, a, b)
	}
	return got
}

func unary(t *testing.T, op int, a int32) int32 {
	t.Helper()
	got, ok := num.Unary(op, a)
	if !ok {
		t.Fatalf("Unary(%d, %d): no operator", op, a)
	}
	return got
}

func fold(t *testing.T, op int, l []int32) int32 {
	t.Helper()
	got, ok := num.Fold(op, l)
	if !ok {
		t.Fatalf("Fold(%d, %d): does not fold", op, l)
	}
	return got
}

func equal(t *testing.T, what string, got, want int32, of ...int32) {
	t.Helper()
	if got != want {
		t.Errorf("%s of %d: %d, want %d", what, of, got, want)
	}
}

func pairs(check func(a, b int32)) {
	for _, a := range words {
		for _, b := range words {
			check(a, b)
		}
	}
}

func triples(check func(a, b, c int32)) {
	for _, a := range few {
		for _, b := range few {
			for _, c := range few {
				check(a, b, c)
			}
		}
	}
}

// lists are some lists of words, the empty ones among them.
func lists() [][]int32 {
	l := [][]int32{nil, {}, few, words}
	for _, a := range few {
		l = append(l, []int32{a})
		for _, b := range few {
			l = append(l, []int32{a, b}, []int32{a, -3, b, 6})
		}
	}
	return l
}

func TestRing(t *testing.T) { // P1.1
	pairs(func(a, b int32) {
		equal(t, "Add exchanged", binary(t, api.Add, a, b), binary(t, api.Add, b, a), a, b)
		equal(t, "Mul exchanged", binary(t, api.Mul, a, b), binary(t, api.Mul, b, a), a, b)
		equal(t, "Sub as Add of Neg", binary(t, api.Sub, a, b), binary(t, api.Add, a, unary(t, api.Neg, b)), a, b)
		equal(t, "Sub after Add", binary(t, api.Sub, binary(t, api.Add, a, b), b), a, a, b)
	})
	triples(func(a, b, c int32) {
		for _, op := range []int{api.Add, api.Mul} {
			equal(t, num.Text(op)+" grouped", binary(t, op, binary(t, op, a, b), c), binary(t, op, a, binary(t, op, b, c)), a, b, c)
		}
		sum := binary(t, api.Mul, a, binary(t, api.Add, b, c))
		equal(t, "Mul over Add", sum, binary(t, api.Add, binary(t, api.Mul, a, b), binary(t, api.Mul, a, c)), a, b, c)
	})
	for _, a := range words {
		equal(t, "Add of 0", binary(t, api.Add, a, 0), a, a)
		equal(t, "Mul by 1", binary(t, api.Mul, a, 1), a, a)
		equal(t, "Mul by -1", binary(t, api.Mul, a, -1), unary(t, api.Neg, a), a)
	}
}

func TestDivision(t *testing.T) { // P1.2
	pairs(func(a, b int32) {
		div, rem := binary(t, api.Div, a, b), binary(t, api.Rem, a, b)
		if b == 0 {
			equal(t, "Div", div, 0, a, b)
			equal(t, "Rem", rem, 0, a, b)
			return
		}
		equal(t, "Div * b + Rem", binary(t, api.Add, binary(t, api.Mul, div, b), rem), a, a, b)
		if rem != 0 && (rem < 0) != (a < 0) {
			t.Errorf("Rem(%d, %d) is %d: not the sign of a", a, b, rem)
		}
		if size(rem) >= size(b) {
			t.Errorf("Rem(%d, %d) is %d: not less than b", a, b, rem)
		}
	})
	equal(t, "Div", binary(t, api.Div, least, -1), least, least, -1)
	equal(t, "Rem", binary(t, api.Rem, least, -1), 0, least, -1)
}

// size returns the absolute value, which is no word for the least word.
func size(a int32) int64 {
	return max(int64(a), -int64(a))
}

func TestBits(t *testing.T) { // P1.3
	for _, a := range words {
		equal(t, "Not as Neg - 1", unary(t, api.Not, a), binary(t, api.Sub, unary(t, api.Neg, a), 1), a)
		equal(t, "Not twice", unary(t, api.Not, unary(t, api.Not, a)), a, a)
		equal(t, "Xor with itself", binary(t, api.Xor, a, a), 0, a)
	}
	pairs(func(a, b int32) {
		na, nb := unary(t, api.Not, a), unary(t, api.Not, b)
		and, or, xor := binary(t, api.And, a, b), binary(t, api.Or, a, b), binary(t, api.Xor, a, b)
		equal(t, "Not of And", unary(t, api.Not, and), binary(t, api.Or, na, nb), a, b)
		equal(t, "Not of Or", unary(t, api.Not, or), binary(t, api.And, na, nb), a, b)
		equal(t, "Xor of both Nots", binary(t, api.Xor, na, nb), xor, a, b)
		equal(t, "Xor as Or without And", binary(t, api.And, or, unary(t, api.Not, and)), xor, a, b)
	})
}

func TestOrder(t *testing.T) { // P1.4
	pairs(func(a, b int32) {
		lt, eq, gt := binary(t, api.Lt, a, b), binary(t, api.Eq, a, b), binary(t, api.Lt, b, a)
		equal(t, "Lt, Eq and Lt exchanged", lt+eq+gt, 1, a, b)
		equal(t, "Le as Lt or Eq", binary(t, api.Le, a, b), lt+eq, a, b)
		equal(t, "Ne as not Eq", binary(t, api.Ne, a, b), unary(t, api.Zero, eq), a, b)
		low, high := binary(t, api.Min, a, b), binary(t, api.Max, a, b)
		equal(t, "Le of Min and Max", binary(t, api.Le, low, high), 1, a, b)
		if !(low == a && high == b) && !(low == b && high == a) {
			t.Errorf("Min and Max of %d and %d: %d and %d", a, b, low, high)
		}
		below, above := binary(t, api.Ult, a, b), binary(t, api.Ult, b, a)
		equal(t, "Ult, Eq and Ult exchanged", below+eq+above, 1, a, b)
	})
}

func TestFoldingOperators(t *testing.T) { // P1.5
	for i, op := range folding {
		n, ok := num.Neutral(op)
		if n != neutrals[i] || !ok {
			t.Errorf("Neutral(%d) is %d, %v, want %d", op, n, ok, neutrals[i])
		}
		for _, a := range words {
			equal(t, num.Text(op)+" with its neutral word", binary(t, op, n, a), a, a)
		}
		pairs(func(a, b int32) {
			equal(t, num.Text(op)+" exchanged", binary(t, op, a, b), binary(t, op, b, a), a, b)
		})
		triples(func(a, b, c int32) {
			equal(t, num.Text(op)+" grouped", binary(t, op, binary(t, op, a, b), c), binary(t, op, a, binary(t, op, b, c)), a, b, c)
		})
	}
}

func TestFold(t *testing.T) { // P1.5
	all := lists()
	for i, op := range folding {
		empty := neutrals[i]
		equal(t, "Fold of nil by "+num.Text(op), fold(t, op, nil), empty)
		equal(t, "Fold of nothing by "+num.Text(op), fold(t, op, []int32{}), empty)
		for _, l := range all {
			want := empty
			for _, a := range l {
				want = binary(t, op, want, a)
			}
			equal(t, "Fold by "+num.Text(op), fold(t, op, l), want, l...)
			back := slices.Clone(l)
			slices.Reverse(back)
			equal(t, "Fold backwards by "+num.Text(op), fold(t, op, back), want, l...)
			for _, m := range all[:20] {
				joined := slices.Concat(l, m)
				equal(t, "Fold joined by "+num.Text(op), fold(t, op, joined), binary(t, op, want, fold(t, op, m)), joined...)
			}
		}
	}
}

func TestFoldResults(t *testing.T) {
	l := []int32{12, -5, 10}
	for i, want := range []int32{17, -5, 12, 8, -1, -3} {
		equal(t, "Fold by "+num.Text(folding[i]), fold(t, folding[i], l), want, l...)
	}
	if !slices.Equal(l, []int32{12, -5, 10}) {
		t.Errorf("Fold changed its argument to %d", l)
	}
	equal(t, "Fold", fold(t, api.Add, []int32{greatest, 1}), least, greatest, 1)
}

func TestWhichFold(t *testing.T) {
	for op := range api.Binaries {
		want := slices.Contains(folding, op)
		if num.Folds(op) != want {
			t.Errorf("Folds(%d) is %v", op, !want)
		}
		if n, ok := num.Neutral(op); ok != want || !ok && n != 0 {
			t.Errorf("Neutral(%d) is %d, %v", op, n, ok)
		}
		for _, l := range [][]int32{nil, {7}, {7, 8}} {
			if n, ok := num.Fold(op, l); ok != want || !ok && n != 0 {
				t.Errorf("Fold(%d, %d) is %d, %v", op, l, n, ok)
			}
		}
	}
}

func TestCommutes(t *testing.T) {
	for op := range api.Binaries {
		same := true
		pairs(func(a, b int32) {
			same = same && binary(t, op, a, b) == binary(t, op, b, a)
		})
		if num.Commutes(op) != same {
			t.Errorf("Commutes(%d) is %v", op, !same)
		}
	}
}

func TestText(t *testing.T) {
	signs := []string{"+", "-", "*", "/", "%", "&", "|", "^", "<<", ">>", ">>>", "<", "<=", "==", "!=", "<:", "&&", "||", "min", "max"}
	for op := range api.Binaries {
		if got := num.Text(op); got != signs[op] {
			t.Errorf("Text(%d) is %q, want %q", op, got, signs[op])
		}
	}
	for op, want := range []string{"-", "~", "!"} {
		if got := num.UnaryText(op); got != want {
			t.Errorf("UnaryText(%d) is %q, want %q", op, got, want)
		}
	}
}

func TestNoOperator(t *testing.T) {
	for _, op := range noBinary {
		if got, ok := num.Binary(op, 6, 3); got != 0 || ok {
			t.Errorf("Binary(%d, 6, 3) is %d, %v", op, got, ok)
		}
		if got, ok := num.Neutral(op); got != 0 || ok {
			t.Errorf("Neutral(%d) is %d, %v", op, got, ok)
		}
		if got, ok := num.Fold(op, []int32{6, 3}); got != 0 || ok {
			t.Errorf("Fold(%d, 6 and 3) is %d, %v", op, got, ok)
		}
		if num.Folds(op) || num.Commutes(op) || num.Text(op) != "" {
			t.Errorf("%d: Folds %v, Commutes %v, Text %q", op, num.Folds(op), num.Commutes(op), num.Text(op))
		}
	}
	for _, op := range noUnary {
		if got, ok := num.Unary(op, 6); got != 0 || ok {
			t.Errorf("Unary(%d, 6) is %d, %v", op, got, ok)
		}
		if got := num.UnaryText(op); got != "" {
			t.Errorf("UnaryText(%d) is %q", op, got)
		}
	}
}
