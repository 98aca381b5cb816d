package flow_test

import (
	"math/rand"
	"slices"
	"strconv"
	"strings"
	"testing"

	"drawloom/api"
	"drawloom/check"
	"drawloom/flow"
	"drawloom/mean"
	"drawloom/syntax"
)

// author writes sources of sound programs, the same ones each time. Most launches of them end, and many are free.
type author struct {
	*rand.Rand
	visible []string // variables and integer parameters
	fixed   []string // those of them that count the rounds of a loop, and do not change otherwise
	arrays  []usedArray
	funcs   []string
	params  map[string]int // of functions
	kernel  bool
	uneven  int   // One of so many kernels may have barriers that not all threads of a block reach.
	flat    bool  // whether the kernel is not such a one
	treats  []int // how arrays may be treated
	apart   bool  // whether no array is both loaded and changed
	inIf    int   // how many conditions are around that threads may not share
	loops   int
	room    int
}

// usedArray is an array, with how it is treated and the operator of its atomic operations.
type usedArray struct {
	name  string
	treat int
	op    string
}

var foldWords = []string{"add", "min", "max", "and", "or", "xor"}

func newAuthor(seed int64) *author {
	return &author{Rand: rand.New(rand.NewSource(seed)), params: map[string]int{}, uneven: 3, treats: []int{own, loaded, summed, wild}, room: 120}
}

func (a *author) one(l ...string) string { return l[a.Intn(len(l))] }

// program writes a program with the kernel k.
func (a *author) program() string {
	var b strings.Builder
	for _, name := range []string{"f", "g", "h"}[:a.Intn(4)] {
		b.WriteString(a.function(name))
		a.funcs = append(a.funcs, name)
	}
	a.kernel, a.visible, a.flat = true, nil, a.Intn(a.uneven) > 0
	var l []string
	for i := range 1 + a.Intn(4) {
		name := "p" + strconv.Itoa(i)
		if a.Intn(3) == 0 {
			l = append(l, "int "+name)
			a.visible = append(a.visible, name)
		} else {
			l = append(l, "buffer "+name)
			a.array(name)
		}
	}
	b.WriteString("kernel k(" + strings.Join(l, ", ") + ") { ")
	for i := range a.Intn(3) {
		b.WriteString("shared t" + strconv.Itoa(i) + "[" + strconv.Itoa(1+a.Intn(8)) + "]; ")
		a.array("t" + strconv.Itoa(i))
	}
	b.WriteString(a.list(4, 12))
	for _, x := range a.arrays {
		b.WriteString(a.change(x))
	}
	b.WriteString("}")
	return b.String()
}

func (a *author) array(name string) {
	a.arrays = append(a.arrays, usedArray{name, a.treats[a.Intn(len(a.treats))], a.one(foldWords...)})
}

func (a *author) function(name string) string {
	a.visible = nil
	for range a.Intn(4) {
		a.visible = append(a.visible, a.fresh())
	}
	a.params[name] = len(a.visible)
	s := "func " + name + "(" + strings.Join(a.visible, ", ") + ") { " + a.list(3, 4)
	if a.Intn(4) > 0 {
		s += "return " + a.expr(2) + "; "
	}
	return s + "} "
}

// fresh returns a name that is not visible.
func (a *author) fresh() string {
	for {
		name := a.one("a", "b", "c", "d", "e", "i", "j", "x", "y", "z", "x1", "x2", "x3", "x4")
		if !slices.Contains(a.visible, name) {
			return name
		}
	}
}

func (a *author) full() bool { return len(a.visible) >= 11 }

// list writes at most about n statements; their variables are not visible after them.
func (a *author) list(depth, n int) string {
	visible := len(a.visible)
	var b strings.Builder
	for range n/3 + a.Intn(n) {
		if depth > 0 && a.room > 0 {
			b.WriteString(a.stmt(depth))
		}
	}
	a.visible = a.visible[:visible]
	return b.String()
}

func (a *author) stmt(depth int) string {
	a.room--
	mayLeave := !a.kernel || a.inIf == 0 || !a.flat
	if a.kernel && a.Intn(4) == 0 && len(a.arrays) > 0 {
		return a.change(a.arrays[a.Intn(len(a.arrays))])
	}
	switch n := a.Intn(22); {
	case n < 4 && !a.full():
		return a.declare("let", a.expr(3))
	case n < 8:
		return a.set()
	case n < 11 && a.kernel && len(a.arrays) > 0:
		return a.change(a.arrays[a.Intn(len(a.arrays))])
	case n < 14:
		return a.choice(depth)
	case n < 16 && !a.full():
		return a.loop(depth)
	case n < 17 && a.loops > 0 && mayLeave:
		return "if " + a.expr(2) + " { " + a.set() + a.one("break", "continue") + "; " + a.dead() + "} "
	case n < 18 && a.loops > 0 && mayLeave && a.Intn(3) == 0:
		return a.one("break", "continue") + "; "
	case n < 19 && !a.kernel && a.Intn(2) == 0:
		return "if " + a.expr(2) + " { return " + a.expr(2) + "; } "
	case n < 19 && a.kernel && !a.flat && a.Intn(3) == 0:
		return "return; " + a.dead()
	case n < 21 && a.kernel && (a.inIf == 0 || !a.flat):
		return a.meet()
	}
	return ""
}

// declare writes a declaration; what gives the variable its first word comes before.
func (a *author) declare(word, s string) string {
	name := a.fresh()
	a.visible = append(a.visible, name)
	return word + " " + name + " = " + s + "; "
}

// dead writes statements that are never executed, now and then.
func (a *author) dead() string {
	if !a.kernel || a.Intn(3) > 0 {
		return ""
	}
	return a.one("barrier; ", "if tid { barrier; } else { collect q = add 1; } ", "if bid { collect q = max 2; while q { barrier; break; } } ")
}

func (a *author) set() string {
	names := slices.DeleteFunc(slices.Clone(a.visible), func(s string) bool { return slices.Contains(a.fixed, s) })
	if len(names) == 0 {
		return ""
	}
	return a.one(names...) + " = " + a.expr(3) + "; "
}

const ownCell = "bid * dim + tid"

// change writes a statement that changes an array, as the array is treated.
func (a *author) change(x usedArray) string {
	put := x.name + "[" + ownCell + "] = " + a.expr(3) + "; "
	switch x.treat {
	case own:
		return put
	case loaded:
		return ""
	case summed:
		return "atomic " + x.op + " " + x.name + "[" + a.index() + "], " + a.expr(2) + "; "
	}
	if a.Intn(2) == 0 {
		return x.name + "[" + a.index() + "] = " + a.expr(3) + "; "
	}
	return "atomic " + a.one("add", "max") + " " + x.name + "[" + a.index() + "], " + a.expr(2) + "; "
}

// choice writes an if, whose condition all threads of a block share now and then.
func (a *author) choice(depth int) string {
	condition := a.expr(3)
	if a.kernel && a.Intn(3) == 0 {
		condition = a.one("bid", "!bid", "dim < 3", "grid == 2")
	} else {
		a.inIf++
		defer func() { a.inIf-- }()
		if a.kernel && !a.flat && a.Intn(2) == 0 {
			condition = a.one("tid", "tid < 2", "tid % 2")
		}
	}
	s := "if " + condition + " { " + a.list(depth-1, 5) + "} "
	if a.Intn(2) == 0 {
		s += "else { " + a.list(depth-1, 4) + "} "
	}
	return s
}

// loop writes a loop of a few rounds, with its counter before it; rarely, an endless one.
func (a *author) loop(depth int) string {
	s := a.declare("let", "0")
	name := a.visible[len(a.visible)-1]
	a.fixed = append(a.fixed, name)
	a.loops++
	condition := name + " < " + strconv.Itoa(a.Intn(4))
	if a.Intn(30) == 0 {
		condition = a.expr(2)
	}
	s += "while " + condition + " { " + name + " = " + name + " + 1; " + a.list(depth-1, 5) + "} "
	a.loops--
	a.fixed = a.fixed[:len(a.fixed)-1]
	return s
}

func (a *author) meet() string {
	if a.full() || a.Intn(2) == 0 {
		return "barrier; "
	}
	s := a.one(foldWords...) + " " + a.expr(3)
	return a.declare("collect", s)
}

// index writes an index of any cell, mostly of one that there is.
func (a *author) index() string {
	switch a.Intn(6) {
	case 0:
		return "tid"
	case 1:
		return a.expr(2)
	case 2:
		return "dim - tid - 1"
	case 3:
		return ownCell
	}
	return strconv.Itoa(a.Intn(4))
}

func (a *author) expr(depth int) string {
	a.room--
	if depth <= 1 || a.room < 0 {
		return a.leaf()
	}
	switch n := a.Intn(10); {
	case n < 2:
		return a.one("-", "~", "!") + a.expr(depth-1)
	case n < 5:
		x := a.expr(depth - 1)
		sign := a.one("+", "-", "*", "/", "%", "&", "|", "^", "<<", ">>", ">>>", "<", "<=", "==", "!=", "<:", "&&", "||", ">", ">=")
		return "(" + x + " " + sign + " " + a.expr(depth-1) + ")"
	case n < 6:
		x := a.expr(depth - 1)
		return a.one("min", "max") + "(" + x + ", " + a.expr(depth-1) + ")"
	case n < 8 && a.kernel && len(a.arrays) > 0:
		return a.load(a.arrays[a.Intn(len(a.arrays))])
	case n < 9 && len(a.funcs) > 0:
		name := a.one(a.funcs...)
		var l []string
		for range a.params[name] {
			l = append(l, a.expr(depth-1))
		}
		return name + "(" + strings.Join(l, ", ") + ")"
	}
	return a.leaf()
}

// load writes a load, if the array is one that is loaded.
func (a *author) load(x usedArray) string {
	switch {
	case x.treat == own:
		return x.name + "[" + ownCell + "]"
	case x.treat == loaded || x.treat == wild && !a.apart:
		return x.name + "[" + a.index() + "]"
	}
	return a.leaf()
}

func (a *author) leaf() string {
	switch {
	case a.kernel && a.Intn(3) == 0:
		return a.one("tid", "bid", "dim", "grid")
	case len(a.visible) > 0 && a.Intn(3) > 0:
		return a.one(a.visible...)
	}
	return a.one("0", "1", "2", "3", "5", "2147483647", "2147483648")
}

// written is a launch of a program that an author has written, with its flow graph.
type written struct {
	source string
	p      api.Program
	f      api.Flow
	l      api.Launch
	m      api.Mem
	want   api.Run // without turns
}

// programs calls use for launches of so many programs, whose authors may be prepared.
func programs(t *testing.T, seeds int, prepare func(a *author), use func(m *maker, x written)) {
	t.Helper()
	for seed := range seeds {
		a := newAuthor(int64(seed))
		if prepare != nil {
			prepare(a)
		}
		x := written{source: a.program()}
		p, _, e := syntax.Parse(x.source)
		if e == api.ErrSize {
			continue // too many parts
		}
		if _, bad := check.Check(p); e != api.OK || bad != api.OK {
			t.Fatalf("%d: %d, %d: %s", seed, e, bad, x.source)
		}
		x.p = p
		x.f, e = flow.Lower(p, "k")
		if e == api.ErrSize && inlinedParts(p) > 300 {
			continue
		}
		if e != api.OK {
			t.Fatalf("%d: %d: %s", seed, e, x.source)
		}
		m := newMaker(int64(seed))
		x.l, x.m, _ = m.launch(p.Kernels[0].Params)
		if a.apart {
			x.m = x.m[:1]
			for i := range x.l.Args {
				x.m = append(x.m, cells(m.Intn(8)))
				if p.Kernels[0].Params[i].Buffer {
					x.l.Args[i] = int32(i) // a buffer of its own
				}
			}
		}
		x.run(t)
		use(m, x)
	}
}

func (x *written) run(t *testing.T) {
	t.Helper()
	var e api.Errno
	x.want, e = mean.Run(x.p, x.l, x.m, nil)
	if e != api.OK {
		t.Fatalf("%s: %d", x.source, e)
	}
}

// most returns how many steps each thread of the flow graph may do, by the chapter's promises.
func (x *written) most(t *testing.T) int {
	t.Helper()
	w, e := mean.New(x.p, x.l, x.m)
	if e != api.OK {
		t.Fatalf("%s: %d", x.source, e)
	}
	steps := make([]int, x.l.Grid*x.l.Block)
	for ready := w.Ready(); len(ready) > 0; ready = w.Ready() {
		before := w.Steps()
		w.Step(ready[0])
		steps[ready[0]] += w.Steps() - before
	}
	return min(1000+1000*slices.Max(steps), 1000000)
}

// inlinedParts returns how many parts the kernel k has if those of a function count again for each call of it; those of a function count as 1000 at most.
func inlinedParts(p api.Program) int {
	funcs := map[string]int{}
	var expr func(x api.Expr) int
	var list func(l []api.Stmt) int
	exprs := func(l []api.Expr) int {
		parts := 0
		for _, x := range l {
			parts += expr(x)
		}
		return parts
	}
	expr = func(x api.Expr) int {
		parts := 1 + exprs(x.Kids)
		if x.Kind == api.ECall {
			parts += funcs[x.Name]
		}
		return parts
	}
	list = func(l []api.Stmt) int {
		parts := 0
		for _, s := range l {
			parts += 1 + exprs(s.Exprs) + list(s.Body) + list(s.Else)
		}
		return parts
	}
	for _, f := range p.Funcs {
		parts := list(f.Body)
		funcs[f.Name] = min(parts, 1000)
	}
	at := slices.IndexFunc(p.Kernels, func(k api.Kernel) bool { return k.Name == "k" })
	return list(p.Kernels[at].Body)
}
