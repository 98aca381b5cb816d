package mean

import (
	"slices"

	"drawloom/api"
)

// over is the number of the statement after the last one: there is none.
const over = -1

// code is a kernel with the functions that it may call. Names have become numbers.
type code struct {
	funcs  []routine
	kernel routine
}

// routine is a function or a kernel: first is the number of its first statement; vars is how many variables it has, of which the first ones are its integer parameters.
type routine struct {
	stmts []stmt
	first int
	vars  int
}

// stmt is a statement; at is the number of its variable (SLet, SSet, SCollect) or its space (SPut, SAtomic). The statement after it is yes if the word of its first expression is not 0, and otherwise no; it is no for a statement without expressions.
type stmt struct {
	kind, op int
	at       int
	exprs    []expr
	yes, no  int
}

// next returns the number of the statement that follows.
func (s *stmt) next(word int32) int {
	if word != 0 {
		return s.yes
	}
	return s.no
}

// expr is an expression; at is the number of its variable (EName) or its function (ECall), or its space (ELoad).
type expr struct {
	kind, op int
	word     int32
	at       int
	kids     []expr
}

// coder translates a function or a kernel.
type coder struct {
	vars   map[string]int // Variables of one name are never visible at once, so that they share their number.
	spaces map[string]int
	funcs  map[string]int
	stmts  []stmt
}

// exits are the numbers of the statements to which a statement leads: the next one, that of SContinue, and that of SBreak.
type exits struct {
	next, again, after int
}

func newCoder(funcs map[string]int) *coder {
	return &coder{vars: map[string]int{}, spaces: map[string]int{}, funcs: funcs}
}

// encodeFuncs translates functions, and returns their numbers by their names.
func encodeFuncs(l []api.Func) ([]routine, map[string]int) {
	var funcs []routine
	numbers := map[string]int{}
	for i, f := range l {
		c := newCoder(numbers)
		for _, name := range f.Params {
			c.variable(name)
		}
		numbers[f.Name] = i
		made := c.routine(f.Body)
		funcs = append(funcs, made)
	}
	return funcs, numbers
}

// encodeKernel translates a kernel for some arguments. It also returns the first words of its integer parameters.
func encodeKernel(k api.Kernel, args []int32, funcs map[string]int) (routine, []int32) {
	c := newCoder(funcs)
	var words []int32
	for i, p := range k.Params {
		if p.Buffer {
			c.spaces[p.Name] = int(args[i])
			continue
		}
		c.variable(p.Name)
		words = append(words, args[i])
	}
	for i, a := range k.Shared {
		c.spaces[a.Name] = -1 - i
	}
	return c.routine(k.Body), words
}

func (c *coder) routine(body []api.Stmt) routine {
	first := c.list(body, exits{next: over})
	return routine{stmts: c.stmts, first: first, vars: len(c.vars)}
}

// variable returns the number of a variable.
func (c *coder) variable(name string) int {
	at, ok := c.vars[name]
	if !ok {
		at = len(c.vars)
		c.vars[name] = at
	}
	return at
}

// list translates statements, the last one first, since each one needs the number of the next one. It returns the number of the first one, or of what follows if there is none.
func (c *coder) list(l []api.Stmt, to exits) int {
	for _, s := range slices.Backward(l) {
		to.next = c.stmt(s, to)
	}
	return to.next
}

// stmt translates a statement and returns its number.
func (c *coder) stmt(s api.Stmt, to exits) int {
	number := len(c.stmts)
	c.stmts = append(c.stmts, stmt{}) // The number is taken before that of any other statement in it.
	made := stmt{kind: s.Kind, op: s.Op, exprs: copied(s.Exprs, c.expr), yes: to.next, no: to.next}
	switch s.Kind {
	case api.SLet, api.SSet, api.SCollect:
		made.at = c.variable(s.Name)
	case api.SPut, api.SAtomic:
		made.at = c.spaces[s.Name]
	case api.SIf:
		made.yes = c.list(s.Body, to)
		made.no = c.list(s.Else, to)
	case api.SWhile:
		made.yes = c.list(s.Body, exits{next: number, again: number, after: to.next})
	case api.SBreak:
		made.no = to.after
	case api.SContinue:
		made.no = to.again
	case api.SReturn:
		made.no = over
	}
	c.stmts[number] = made
	return number
}

func (c *coder) expr(x api.Expr) expr {
	made := expr{kind: x.Kind, op: x.Op, word: x.Int, kids: copied(x.Kids, c.expr)}
	switch x.Kind {
	case api.EName:
		made.at = c.variable(x.Name)
	case api.ELoad:
		made.at = c.spaces[x.Name]
	case api.ECall:
		made.at = c.funcs[x.Name]
	}
	return made
}

// copied returns what becomes of each item.
func copied[From, To any](items []From, become func(item From) To) []To {
	var made []To
	for _, item := range items {
		one := become(item)
		made = append(made, one)
	}
	return made
}
