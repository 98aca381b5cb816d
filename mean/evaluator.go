package mean

import (
	"drawloom/api"
	"drawloom/cells"
	"drawloom/num"
)

// evaluator evaluates the expressions of one statement of a kernel, or a call of a function from outside, which has no thread. It changes nothing but itself, so that a statement for which the steps do not suffice has no effect.
type evaluator struct {
	funcs  []routine
	steps  int // that the thread has counted
	spent  bool
	world  *World
	thread *thread
	loads  []api.Access
}

// begin counts a statement, and evaluates its expressions. The words have no meaning if the steps are spent.
func (v *evaluator) begin(s *stmt, vars []int32) [2]int32 {
	var words [2]int32
	if v.steps >= api.MaxSteps {
		v.spent = true
		return words
	}
	v.steps++
	for i := range s.exprs {
		words[i] = v.word(&s.exprs[i], vars)
	}
	return words
}

// word evaluates an expression.
func (v *evaluator) word(x *expr, vars []int32) int32 {
	switch x.kind {
	case api.EInt:
		return x.word
	case api.EName:
		return vars[x.at]
	case api.ESpecial:
		return v.world.special(v.thread, x.op)
	case api.EUnary:
		word, _ := num.Unary(x.op, v.word(&x.kids[0], vars))
		return word
	case api.EBinary:
		a := v.word(&x.kids[0], vars)
		b := v.word(&x.kids[1], vars)
		word, _ := num.Binary(x.op, a, b)
		return word
	case api.ELoad:
		return v.load(x.at, v.word(&x.kids[0], vars))
	}
	args := make([]int32, len(x.kids))
	for i := range x.kids {
		args[i] = v.word(&x.kids[i], vars)
	}
	return v.call(&v.funcs[x.at], args)
}

// load returns the word of a cell.
func (v *evaluator) load(space int, index int32) int32 {
	a := v.thread.access(space, index, cells.Load)
	word, ok := v.world.cells.Peek(a)
	if ok {
		v.loads = append(v.loads, a)
	}
	return word
}

// call executes a function.
func (v *evaluator) call(f *routine, args []int32) int32 {
	vars := make([]int32, f.vars)
	copy(vars, args)
	for at := f.first; at != over; {
		s := &f.stmts[at]
		words := v.begin(s, vars)
		if v.spent {
			return 0
		}
		switch s.kind {
		case api.SLet, api.SSet:
			vars[s.at] = words[0]
		case api.SReturn:
			return words[0]
		}
		at = s.next(words[0])
	}
	return 0
}
