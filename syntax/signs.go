package syntax

import "drawloom/api"

// infix is a binary operator as it stands between its operands. A turned one is written with the second kid first.
type infix struct {
	sign   string
	level  int
	op     int
	turned bool
}

// infixes are the binary operators but for min and max, which are written as calls.
var infixes = [...]infix{
	{sign: "||", level: 1, op: api.Some},
	{sign: "&&", level: 2, op: api.Both},
	{sign: "|", level: 3, op: api.Or},
	{sign: "^", level: 4, op: api.Xor},
	{sign: "&", level: 5, op: api.And},
	{sign: "==", level: 6, op: api.Eq},
	{sign: "!=", level: 6, op: api.Ne},
	{sign: "<", level: 7, op: api.Lt},
	{sign: "<=", level: 7, op: api.Le},
	{sign: ">", level: 7, op: api.Lt, turned: true},
	{sign: ">=", level: 7, op: api.Le, turned: true},
	{sign: "<:", level: 7, op: api.Ult},
	{sign: "<<", level: 8, op: api.Shl},
	{sign: ">>", level: 8, op: api.Shr},
	{sign: ">>>", level: 8, op: api.Ushr},
	{sign: "+", level: 9, op: api.Add},
	{sign: "-", level: 9, op: api.Sub},
	{sign: "*", level: 10, op: api.Mul},
	{sign: "/", level: 10, op: api.Div},
	{sign: "%", level: 10, op: api.Rem},
}

// prefixes are the signs of the unary operators.
var prefixes = [api.Unaries]string{api.Neg: "-", api.Not: "~", api.Zero: "!"}

// specials are the words of the special values.
var specials = [api.Specials]string{api.Tid: "tid", api.Bid: "bid", api.Dim: "dim", api.Grid: "grid"}

// fold is an operator that folds, with its word.
type fold struct {
	word string
	op   int
}

var folds = [...]fold{
	{word: "add", op: api.Add},
	{word: "min", op: api.Min},
	{word: "max", op: api.Max},
	{word: "and", op: api.And},
	{word: "or", op: api.Or},
	{word: "xor", op: api.Xor},
}

// infixOf returns the binary operator that a sign denotes, and whether there is one.
func infixOf(sign string) (infix, bool) {
	for _, o := range infixes {
		if o.sign == sign {
			return o, true
		}
	}
	return infix{}, false
}

// infixSign returns the sign between the kids of a binary expression; none for min and max.
func infixSign(op int) (string, bool) {
	for _, o := range infixes {
		if o.op == op && !o.turned {
			return o.sign, true
		}
	}
	return "", false
}

// foldWord returns the word of an operator, and whether it folds.
func foldWord(op int) (string, bool) {
	for _, f := range folds {
		if f.op == op {
			return f.word, true
		}
	}
	return "", false
}
