package mean_test

import (
	"math/rand"
	"slices"
	"testing"

	"drawloom/api"
	"drawloom/check"
)

// How the kernel of a maker treats an array.
const (
	own    = iota // each thread its own cells only
	loaded        // nothing but loads
	summed        // nothing but atomic operations with one operator
	shifts        // each thread its own cells to store, and any cells to load
	wild          // anything
	treatments
)

var (
	foldOps  = []int{api.Add, api.Min, api.Max, api.And, api.Or, api.Xor}
	allNames = []string{"a", "b", "c", "d", "e", "f", "g", "x1", "s_", "Z"}
)

// maker makes launches of sound programs, the same ones each time. Most of them end, and many are free.
type maker struct {
	*rand.Rand
	funcs  []api.Func
	words  []string // that are visible
	fixed  []string // those of them that count the rounds of a loop, and do not change otherwise
	arrays []string
	treats map[string]int
	ops    map[string]int
	flat   bool // whether all threads reach each barrier
	inIf   int  // how many conditions are around that threads may not share
	kernel bool
	loops  int
	room   int
}

// made is what a maker makes.
type made struct {
	p     api.Program
	l     api.Launch
	m     api.Mem
	turns []int
}

func newMaker(seed int64) *maker {
	return &maker{Rand: rand.New(rand.NewSource(seed)), treats: map[string]int{}, ops: map[string]int{}, room: 110}
}

// launch makes a launch of the kernel k, with turns.
func (m *maker) launch() made {
	var x made
	for _, name := range []string{"f", "g", "h"}[:m.Intn(4)] {
		f := m.function(name)
		x.p.Funcs = append(x.p.Funcs, f)
		m.funcs = append(m.funcs, f)
	}
	k := m.makeKernel()
	x.p.Kernels = []api.Kernel{k}
	x.l = api.Launch{Kernel: "k", Grid: 1 + m.Intn(3), Block: 1 + m.Intn(4)}
	x.m = make(api.Mem, 1+m.Intn(3))
	for i := range x.m {
		for range m.Intn(16) {
			x.m[i] = append(x.m[i], m.number())
		}
	}
	for i, p := range k.Params {
		arg := m.number()
		if p.Buffer {
			arg = int32(i % len(x.m))
			if m.Intn(8) == 0 {
				arg = int32(m.Intn(len(x.m)))
			}
		}
		x.l.Args = append(x.l.Args, arg)
	}
	x.turns = m.turns(400)
	return x
}

// turns makes at most n turns; some of them are much alike, so that a thread goes on for a while.
func (m *maker) turns(n int) []int {
	var turns []int
	alike := 1 + m.Intn(20)
	turn := 0
	for range m.Intn(n) {
		if m.Intn(alike) == 0 {
			turn = m.Intn(40) - 10
		}
		turns = append(turns, turn)
	}
	return turns
}

func (m *maker) number() int32 {
	return []int32{0, 1, 2, 3, 5, -1, -7, 100, greatest, least}[m.Intn(10)]
}

func (m *maker) one(names []string) string { return names[m.Intn(len(names))] }

// fresh returns a name that is not visible.
func (m *maker) fresh() string {
	return m.one(slices.DeleteFunc(slices.Clone(allNames), func(s string) bool { return slices.Contains(m.words, s) || slices.Contains(m.arrays, s) }))
}

func (m *maker) full() bool { return len(m.words)+len(m.arrays) == len(allNames) }

func (m *maker) function(name string) api.Func {
	m.words, m.fixed, m.arrays = nil, nil, nil
	f := api.Func{Name: name}
	for range m.Intn(4) {
		param := m.fresh()
		f.Params = append(f.Params, param)
		m.words = append(m.words, param)
	}
	f.Body = append(m.list(3, 4), api.Stmt{Kind: api.SReturn, Exprs: m.exprs(1)})
	return f
}

func (m *maker) makeKernel() api.Kernel {
	m.words, m.fixed, m.arrays, m.kernel, m.flat = nil, nil, nil, true, m.Intn(3) > 0
	k := api.Kernel{Name: "k"}
	for range 1 + m.Intn(4) {
		x := api.Param{Name: m.fresh(), Buffer: m.Intn(3) > 0}
		k.Params = append(k.Params, x)
		if x.Buffer {
			m.array(x.Name)
		} else {
			m.words = append(m.words, x.Name)
		}
	}
	for range m.Intn(3) {
		a := api.Array{Name: m.fresh(), Size: 1 + m.Intn(8)}
		k.Shared = append(k.Shared, a)
		m.array(a.Name)
	}
	k.Body = m.list(4, 12)
	return k
}

func (m *maker) array(name string) {
	m.arrays = append(m.arrays, name)
	m.treats[name] = m.Intn(treatments)
	m.ops[name] = foldOps[m.Intn(len(foldOps))]
}

// list makes at most n statements of at most depth; their variables are not visible after them.
func (m *maker) list(depth, n int) []api.Stmt {
	words := len(m.words)
	var l []api.Stmt
	for range n/3 + m.Intn(n) {
		if depth > 0 && m.room > 0 {
			l = append(l, m.stmt(depth)...)
		}
	}
	m.words = m.words[:words]
	return l
}

// stmt makes a statement, or a loop with its counter before it.
func (m *maker) stmt(depth int) []api.Stmt {
	m.room--
	switch n := m.Intn(20); {
	case n < 3 && !m.full():
		x := api.Stmt{Kind: api.SLet, Exprs: m.exprs(1), Name: m.fresh()}
		m.words = append(m.words, x.Name)
		return []api.Stmt{x}
	case n < 6:
		return m.set()
	case n < 11 && m.kernel && len(m.arrays) > 0:
		return m.change(m.one(m.arrays))
	case n < 13:
		return []api.Stmt{m.branch(depth)}
	case n < 15 && !m.full():
		return m.loop(depth)
	case n < 16 && m.loops > 0 && (m.inIf == 0 || !m.flat):
		return []api.Stmt{{Kind: api.SIf, Exprs: m.exprs(1), Body: []api.Stmt{{Kind: api.SBreak + m.Intn(2)}}}}
	case n < 17 && m.kernel && m.Intn(3) == 0 && !m.flat:
		return []api.Stmt{{Kind: api.SReturn}}
	case n < 19 && m.kernel && (m.inIf == 0 || !m.flat):
		return m.meet()
	}
	return nil
}

// set makes an SSet.
func (m *maker) set() []api.Stmt {
	names := slices.DeleteFunc(slices.Clone(m.words), func(s string) bool { return slices.Contains(m.fixed, s) })
	if len(names) == 0 {
		return nil
	}
	return []api.Stmt{{Kind: api.SSet, Name: m.one(names), Exprs: m.exprs(1)}}
}

// change makes a statement that changes an array, as the array is treated.
func (m *maker) change(name string) []api.Stmt {
	put := api.Stmt{Kind: api.SPut, Name: name, Exprs: []api.Expr{m.ownIndex(), m.expr(2)}}
	atomic := api.Stmt{Kind: api.SAtomic, Name: name, Op: m.ops[name], Exprs: []api.Expr{m.index(), m.expr(2)}}
	switch m.treats[name] {
	case own, shifts:
		return []api.Stmt{put}
	case loaded:
		return nil
	case summed:
		return []api.Stmt{atomic}
	}
	put.Exprs[0], atomic.Op = m.index(), foldOps[m.Intn(2)]
	return []api.Stmt{[]api.Stmt{put, atomic}[m.Intn(2)]}
}

// meet makes a barrier or a collect.
func (m *maker) meet() []api.Stmt {
	if m.full() || m.Intn(2) == 0 {
		return []api.Stmt{{Kind: api.SBarrier}}
	}
	x := api.Stmt{Kind: api.SCollect, Op: foldOps[m.Intn(len(foldOps))], Exprs: m.exprs(1), Name: m.fresh()}
	m.words = append(m.words, x.Name)
	return []api.Stmt{x}
}

// branch makes an SIf, whose condition all threads share now and then.
func (m *maker) branch(depth int) api.Stmt {
	x := api.Stmt{Kind: api.SIf, Exprs: m.exprs(1)}
	if m.kernel && m.Intn(3) == 0 {
		x.Exprs = []api.Expr{{Kind: api.EBinary, Op: api.Lt, Kids: []api.Expr{special(api.Bid), special(api.Grid)}}}
		x.Exprs[0].Kids[m.Intn(2)] = api.Expr{Kind: api.EInt, Int: 1}
		x.Body, x.Else = m.list(depth-1, 5), m.list(depth-1, 3)
		return x
	}
	m.inIf++
	x.Body, x.Else = m.list(depth-1, 5), m.list(depth-1, 3)
	m.inIf--
	return x
}

// loop makes a loop of a few rounds, with its counter before it; rarely, an endless one.
func (m *maker) loop(depth int) []api.Stmt {
	name := m.fresh()
	word := func(n int32) api.Expr { return api.Expr{Kind: api.EInt, Int: n} }
	counter := api.Expr{Kind: api.EName, Name: name}
	before := api.Stmt{Kind: api.SLet, Name: name, Exprs: []api.Expr{word(0)}}
	next := api.Stmt{Kind: api.SSet, Name: name, Exprs: []api.Expr{{Kind: api.EBinary, Op: api.Add, Kids: []api.Expr{counter, word(1)}}}}
	while := api.Stmt{Kind: api.SWhile, Exprs: []api.Expr{{Kind: api.EBinary, Op: api.Lt, Kids: []api.Expr{counter, word(int32(m.Intn(4)))}}}}
	if m.Intn(30) == 0 {
		while.Exprs = []api.Expr{m.expr(2)}
	}
	m.words, m.fixed = append(m.words, name), append(m.fixed, name)
	m.loops++
	while.Body = append([]api.Stmt{next}, m.list(depth-1, 5)...)
	m.loops--
	m.fixed = m.fixed[:len(m.fixed)-1]
	return []api.Stmt{before, while}
}

func (m *maker) exprs(n int) []api.Expr {
	var l []api.Expr
	for range n {
		l = append(l, m.expr(1+m.Intn(3)))
	}
	return l
}

func special(op int) api.Expr { return api.Expr{Kind: api.ESpecial, Op: op} }

func binary(op int, a, b api.Expr) api.Expr {
	return api.Expr{Kind: api.EBinary, Op: op, Kids: []api.Expr{a, b}}
}

// ownIndex makes an index that no two threads share.
func (m *maker) ownIndex() api.Expr {
	return binary(api.Add, binary(api.Mul, special(api.Bid), special(api.Dim)), special(api.Tid))
}

// index makes an index of any cell, mostly of one that there is.
func (m *maker) index() api.Expr {
	switch m.Intn(6) {
	case 0:
		return special(api.Tid)
	case 1:
		return m.expr(2)
	case 2:
		return binary(api.Sub, binary(api.Sub, special(api.Dim), special(api.Tid)), api.Expr{Kind: api.EInt, Int: 1})
	case 3:
		return m.ownIndex()
	}
	return api.Expr{Kind: api.EInt, Int: int32(m.Intn(4))}
}

// expr makes an expression of at most about depth.
func (m *maker) expr(depth int) api.Expr {
	m.room--
	if depth <= 1 || m.room < 0 {
		return m.leaf()
	}
	switch n := m.Intn(10); {
	case n < 2:
		return api.Expr{Kind: api.EUnary, Op: m.Intn(api.Unaries), Kids: []api.Expr{m.expr(depth - 1)}}
	case n < 6:
		a := m.expr(depth - 1)
		return binary(m.Intn(api.Binaries), a, m.expr(depth-1))
	case n < 8 && m.kernel && len(m.arrays) > 0:
		return m.load(m.one(m.arrays))
	case n < 9 && len(m.funcs) > 0:
		f := m.funcs[m.Intn(len(m.funcs))]
		x := api.Expr{Kind: api.ECall, Name: f.Name}
		for range f.Params {
			x.Kids = append(x.Kids, m.expr(depth-1))
		}
		return x
	}
	return m.leaf()
}

func (m *maker) leaf() api.Expr {
	switch {
	case m.kernel && m.Intn(3) == 0:
		return special(m.Intn(api.Specials))
	case len(m.words) > 0 && m.Intn(3) > 0:
		return api.Expr{Kind: api.EName, Name: m.one(m.words)}
	}
	return api.Expr{Kind: api.EInt, Int: []int32{0, 1, 2, 3, 5, greatest, least}[m.Intn(7)]}
}

// load makes a load, as the array is treated.
func (m *maker) load(name string) api.Expr {
	x := api.Expr{Kind: api.ELoad, Name: name}
	switch m.treats[name] {
	case own:
		x.Kids = []api.Expr{m.ownIndex()}
	case summed:
		return m.leaf()
	default:
		x.Kids = []api.Expr{m.index()}
	}
	return x
}

// launches calls use for so many made launches.
func launches(t *testing.T, seeds int, use func(m *maker, x made)) {
	t.Helper()
	for seed := range seeds {
		m := newMaker(int64(seed))
		x := m.launch()
		if e := check.Fits(x.p, x.l, x.m); e != api.OK {
			if _, e := check.Check(x.p); e == api.ErrForm {
				continue // too many parts
			}
			t.Fatalf("%d: %d: %v", seed, e, x)
		}
		use(m, x)
	}
}
