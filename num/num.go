// Package num is layer 1: words of 32 bits and the operators on them.
package num

// Binary returns the result of a binary operator.
func Binary(op int, a, b int32) (int32, bool) {
	o, ok := findBinary(op)
	if !ok {
		return 0, false
	}
	return o.apply(a, b), true
}

// Unary returns the result of a unary operator.
func Unary(op int, a int32) (int32, bool) {
	o, ok := findUnary(op)
	if !ok {
		return 0, false
	}
	return o.apply(a), true
}

// Folds reports whether a binary operator folds.
func Folds(op int) bool {
	o, ok := findBinary(op)
	return ok && o.folds
}

// Neutral returns the neutral word of an operator that folds.
func Neutral(op int) (int32, bool) {
	o, ok := findBinary(op)
	if !ok || !o.folds {
		return 0, false
	}
	return o.neutral, true
}

// Fold combines words by an operator, from the first to the last one.
func Fold(op int, l []int32) (int32, bool) {
	o, ok := findBinary(op)
	if !ok || !o.folds {
		return 0, false
	}
	word := o.neutral
	for _, next := range l {
		word = o.apply(word, next)
	}
	return word, true
}

// Commutes reports whether the operands of a binary operator may be exchanged.
func Commutes(op int) bool {
	o, ok := findBinary(op)
	return ok && o.commutes
}

// Text returns the sign of a binary operator.
func Text(op int) string {
	o, ok := findBinary(op)
	if !ok {
		return ""
	}
	return o.sign
}

// UnaryText returns the sign of a unary operator.
func UnaryText(op int) string {
	o, ok := findUnary(op)
	if !ok {
		return ""
	}
	return o.sign
}
