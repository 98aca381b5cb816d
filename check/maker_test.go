package check_test

import (
	"math/rand"
	"slices"

	"drawloom/api"
)

var (
	foldOps  = []int{api.Add, api.Min, api.Max, api.And, api.Or, api.Xor}
	allNames = []string{"a", "b", "c", "d", "x1", "s_", "Z", "lets", "abcdefghijklmnop"}
)

// maker makes programs, the same ones each time. It makes sound ones, but for a slip now and then: one in so many choices is made without a look at the rules (none if it is 0).
type maker struct {
	*rand.Rand
	slips  int
	funcs  []api.Func // those before the current one
	titles []string
	words  []string // that are visible
	cells  []string
	kernel bool
	loops  int
	room   int // for so many parts
}

func newMaker(seed int64, slips int) *maker {
	return &maker{Rand: rand.New(rand.NewSource(seed)), slips: slips, room: 150}
}

func (m *maker) slip() bool { return m.slips > 0 && m.Intn(m.slips) == 0 }

func (m *maker) one(names []string) string { return names[m.Intn(len(names))] }

// use returns one of some names.
func (m *maker) use(names []string) string {
	if len(names) == 0 || m.slip() {
		return m.one(allNames)
	}
	return m.one(names)
}

// fresh returns a name that is none of some names.
func (m *maker) fresh(taken ...[]string) string {
	rest := slices.DeleteFunc(slices.Clone(allNames), func(s string) bool { return slices.Contains(slices.Concat(taken...), s) })
	return m.use(rest)
}

func (m *maker) program() api.Program {
	var p api.Program
	for range m.Intn(4) {
		f := m.function()
		p.Funcs = append(p.Funcs, f)
		m.funcs = append(m.funcs, f)
	}
	m.kernel = true
	for range m.Intn(3) {
		p.Kernels = append(p.Kernels, m.makeKernel())
	}
	return p
}

// title returns the name of a function or a kernel.
func (m *maker) title() string {
	name := m.fresh(m.titles)
	m.titles = append(m.titles, name)
	m.words, m.cells = nil, nil
	return name
}

func (m *maker) function() api.Func {
	f := api.Func{Name: m.title()}
	for range m.Intn(4) {
		name := m.fresh(m.words, m.cells)
		f.Params = append(f.Params, name)
		m.words = append(m.words, name)
	}
	f.Body = m.stmts(4)
	return f
}

func (m *maker) makeKernel() api.Kernel {
	k := api.Kernel{Name: m.title()}
	for range m.Intn(4) {
		x := api.Param{Name: m.fresh(m.words, m.cells), Buffer: m.Intn(2) == 0}
		k.Params = append(k.Params, x)
		if x.Buffer {
			m.cells = append(m.cells, x.Name)
		} else {
			m.words = append(m.words, x.Name)
		}
	}
	for range m.Intn(3) {
		a := api.Array{Name: m.fresh(m.words, m.cells), Size: 1 + m.Intn(64)}
		k.Shared = append(k.Shared, a)
		m.cells = append(m.cells, a.Name)
	}
	k.Body = m.stmts(5)
	return k
}

// stmts makes a list of statements of at most depth; its variables are not visible after it.
func (m *maker) stmts(depth int) []api.Stmt {
	words := len(m.words)
	var l []api.Stmt
	for depth > 0 && m.room > 0 && m.Intn(5) > 0 {
		l = append(l, m.stmt(depth))
	}
	m.words = m.words[:words]
	return l
}

// allowed reports whether a statement of a kind may stand here.
func (m *maker) allowed(kind int) bool {
	switch kind {
	case api.SSet:
		return len(m.words) > 0
	case api.SPut, api.SAtomic:
		return m.kernel && len(m.cells) > 0
	case api.SBarrier:
		return m.kernel
	case api.SLet:
		return len(m.words)+len(m.cells) < len(allNames)
	case api.SCollect:
		return m.kernel && len(m.words)+len(m.cells) < len(allNames)
	case api.SBreak, api.SContinue:
		return m.loops > 0
	}
	return true
}

func (m *maker) stmt(depth int) api.Stmt {
	m.room--
	s := api.Stmt{Kind: m.Intn(api.SKinds)}
	for !m.allowed(s.Kind) && !m.slip() {
		s.Kind = m.Intn(api.SKinds)
	}
	switch s.Kind {
	case api.SLet, api.SCollect:
		m.declaration(&s)
	case api.SSet:
		s.Name, s.Exprs = m.use(m.words), m.exprs(1)
	case api.SPut, api.SAtomic:
		s.Name, s.Exprs = m.use(m.cells), m.exprs(2)
	case api.SIf:
		s.Exprs, s.Body, s.Else = m.exprs(1), m.stmts(depth-1), m.stmts(depth-1)
	case api.SWhile:
		s.Exprs = m.exprs(1)
		m.loops++
		s.Body = m.stmts(depth - 1)
		m.loops--
	case api.SReturn:
		if !m.kernel != m.slip() {
			s.Exprs = m.exprs(1)
		}
	}
	if s.Kind == api.SAtomic || s.Kind == api.SCollect {
		s.Op = foldOps[m.Intn(len(foldOps))]
	}
	return s
}

// declaration makes what an SLet or an SCollect has.
func (m *maker) declaration(s *api.Stmt) {
	s.Exprs = m.exprs(1)
	s.Name = m.fresh(m.words, m.cells)
	m.words = append(m.words, s.Name)
}

func (m *maker) exprs(n int) []api.Expr {
	var l []api.Expr
	for range n {
		l = append(l, m.expr(1+m.Intn(4)))
	}
	return l
}

// permitted reports whether an expression of a kind may stand here.
func (m *maker) permitted(kind int) bool {
	switch kind {
	case api.EName:
		return len(m.words) > 0
	case api.ESpecial:
		return m.kernel
	case api.ELoad:
		return m.kernel && len(m.cells) > 0
	case api.ECall:
		return len(m.funcs) > 0
	}
	return true
}

// expr makes an expression of at most depth.
func (m *maker) expr(depth int) api.Expr {
	m.room--
	kinds := api.EKinds
	if depth == 1 || m.room < 0 {
		kinds = api.EUnary
	}
	e := api.Expr{Kind: m.Intn(kinds)}
	for !m.permitted(e.Kind) && !m.slip() {
		e.Kind = m.Intn(kinds)
	}
	kids := 0
	switch e.Kind {
	case api.EInt:
		e.Int = []int32{0, 1, 7, 2147483647, -2147483648}[m.Intn(5)]
	case api.EName:
		e.Name = m.use(m.words)
	case api.ESpecial:
		e.Op = m.Intn(api.Specials)
	case api.EUnary:
		e.Op, kids = m.Intn(api.Unaries), 1
	case api.EBinary:
		e.Op, kids = m.Intn(api.Binaries), 2
	case api.ELoad:
		e.Name, kids = m.use(m.cells), 1
	case api.ECall:
		e.Name, kids = m.call()
	}
	for range kids {
		e.Kids = append(e.Kids, m.expr(depth-1))
	}
	return e
}

// call returns the function of a call, and the number of its arguments.
func (m *maker) call() (string, int) {
	if len(m.funcs) == 0 || m.slip() {
		return m.one(slices.Concat(m.titles, allNames)), m.Intn(4)
	}
	f := m.funcs[m.Intn(len(m.funcs))]
	if m.slip() || m.slip() || m.slip() { // more of them, since calls are rare
		return f.Name, m.Intn(5)
	}
	return f.Name, len(f.Params)
}
