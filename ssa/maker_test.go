package ssa_test

import (
	"math/rand"
	"slices"

	"drawloom/api"
)

// How the flow graph of a maker treats an array.
const (
	own    = iota // each thread its own cells only
	loaded        // nothing but loads
	summed        // nothing but atomic operations with one operator
	wild          // anything
	treatments
)

var folds = []int{api.Add, api.Min, api.Max, api.And, api.Or, api.Xor}

// maker makes flow graphs and launches, the same ones each time.
type maker struct {
	*rand.Rand
	f      api.Flow
	arrays []int32
	treats []int
	ops    []int
	even   bool // whether all threads of a block go the same way
	met    int32

	index  int          // a register with the thread's own index
	known  []int        // the registers that may be used
	shared map[int]bool // those whose words are the same in all threads of a block
}

func newMaker(seed int) *maker { return &maker{Rand: rand.New(rand.NewSource(int64(seed)))} }

// graph makes a valid flow graph without IPhis, whose registers are assigned again and again. Many of its launches end, and many are free of races.
func (m *maker) graph() api.Flow {
	m.head()
	m.shape(1 + m.Intn(14))
	m.f.Regs = 2 + m.Intn(8)
	m.index, m.known, m.shared = 0, nil, map[int]bool{}
	for r := range m.f.Regs {
		m.known = append(m.known, r)
		m.shared[r] = r > m.f.Regs/2
	}
	for i := range m.f.Nodes {
		n := &m.f.Nodes[i]
		if i == 0 && m.Intn(8) > 0 {
			n.Instrs = []api.Instr{special(0, api.Bid), special(1, api.Dim), binary(api.Mul, 0, 0, 1), special(1, api.Tid), binary(api.Add, 0, 0, 1)}
		}
		for range m.Intn(6) {
			d := 1 + m.Intn(m.f.Regs-1)
			n.Instrs = append(n.Instrs, m.instr(d, m.shared[d])...)
		}
		if n.End == api.Branch {
			n.A = m.operand(m.even)
		}
	}
	return m.f
}

// inForm makes a valid flow graph in form, with IPhis or without. It is not made from another flow graph: what an IPhi uses is any register that it may use.
func (m *maker) inForm(phis bool) api.Flow {
	m.head()
	m.shape(1 + m.Intn(12))
	dominates := refDominates(m.f)
	m.shared = map[int]bool{}
	assigned := make([][]int, len(m.f.Nodes))
	above := func(n int) []int { // what is assigned before the node
		var l []int
		for a := range m.f.Nodes {
			if a != n && dominates[a][n] {
				l = append(l, assigned[a]...)
			}
		}
		return l
	}
	for _, at := range byDominance(dominates) {
		m.known = above(at)
		before := len(m.known)
		m.fill(at, phis)
		assigned[at] = m.known[before:]
	}
	for at := range m.f.Nodes {
		own := m.f.Nodes[at].Instrs
		for i := range own {
			if x := &own[i]; x.Kind == api.IPhi {
				for _, p := range refPredecessors(m.f, at) {
					m.known = slices.Concat(above(p), assigned[p])
					x.Args = append(x.Args, m.arg(x.D, own))
				}
			}
		}
	}
	return m.renumbered()
}

// byDominance returns all nodes in an order in which each one comes after those that dominate it.
func byDominance(dominates [][]bool) []int {
	above := func(n int) int {
		count := 0
		for a := range dominates {
			if dominates[a][n] {
				count++
			}
		}
		return count
	}
	var order []int
	for n := range dominates {
		order = append(order, n)
	}
	slices.SortStableFunc(order, func(a, b int) int { return above(a) - above(b) })
	return order
}

// fill makes the instructions of a node of a flow graph in form. Each has a new register; the IPhis have no Args yet.
func (m *maker) fill(at int, phis bool) {
	n := &m.f.Nodes[at]
	add := func(even bool, x api.Instr) {
		n.Instrs = append(n.Instrs, x)
		if d, _ := refRegisters(x); len(d) > 0 {
			m.known = append(m.known, x.D)
			m.shared[x.D] = even
			m.f.Regs++
		}
	}
	switch {
	case at == 0:
		add(true, special(0, api.Bid))
		add(true, special(1, api.Dim))
		add(true, binary(api.Mul, 2, 0, 1))
		add(false, special(3, api.Tid))
		add(false, binary(api.Add, 4, 2, 3))
		m.index = 4
	case phis:
		for range m.Intn(6) {
			add(m.Intn(2) == 0, phi(m.f.Regs))
		}
	}
	for range m.Intn(6) {
		even := m.Intn(2) == 0
		for _, x := range m.instr(m.f.Regs, even) {
			add(even, x)
		}
	}
	if n.End == api.Branch {
		n.A = m.operand(m.even)
	}
}

// arg returns a register for the Args of the IPhi d of a node: often the D of another IPhi there.
func (m *maker) arg(d int, own []api.Instr) int {
	var phis []int
	for _, x := range own {
		if x.Kind == api.IPhi && slices.Contains(m.known, x.D) && (m.shared[x.D] || !m.shared[d]) {
			phis = append(phis, x.D)
		}
	}
	if len(phis) > 0 && m.Intn(3) > 0 {
		return phis[m.Intn(len(phis))]
	}
	return m.operand(m.shared[d])
}

// renumbered returns the flow graph with other numbers of its registers, and perhaps some that do not occur.
func (m *maker) renumbered() api.Flow {
	f := m.f
	f.Regs += m.Intn(2) * m.Intn(4)
	numbers := m.Perm(f.Regs)
	for i := range f.Nodes {
		n := &f.Nodes[i]
		for j := range n.Instrs {
			x := &n.Instrs[j]
			d, uses := refRegisters(*x)
			switch {
			case x.Kind == api.IPhi:
				for k := range x.Args {
					x.Args[k] = numbers[x.Args[k]]
				}
			case len(uses) == 2:
				x.B = numbers[x.B]
				fallthrough
			case len(uses) == 1:
				x.A = numbers[x.A]
			}
			if len(d) > 0 {
				x.D = numbers[x.D]
			}
		}
		if n.End == api.Branch {
			n.A = numbers[n.A]
		}
	}
	return f
}

// head makes a flow graph without nodes.
func (m *maker) head() {
	m.f = api.Flow{Name: "k"}
	m.arrays, m.treats, m.ops = nil, nil, nil
	for i := range m.Intn(4) {
		p := api.Param{Name: string(rune('a' + i)), Buffer: m.Intn(3) > 0}
		m.f.Params = append(m.f.Params, p)
		if p.Buffer {
			m.array(int32(i))
		}
	}
	for i := range m.Intn(3) {
		m.f.Shared = append(m.f.Shared, api.Array{Name: string(rune('p' + i)), Size: 1 + m.Intn(8)})
		m.array(int32(6 + i))
	}
	m.even = m.Intn(2) == 0
}

func (m *maker) array(imm int32) {
	m.arrays = append(m.arrays, imm)
	m.treats = append(m.treats, m.Intn(treatments))
	m.ops = append(m.ops, folds[m.Intn(len(folds))])
}

// shape makes nodes with their ends, which lead forwards mostly, and removes those that cannot be reached.
func (m *maker) shape(n int) {
	m.f.Nodes = make([]api.Node, n)
	for i := range m.f.Nodes {
		target := func() int {
			if m.Intn(4) == 0 || i == n-1 {
				return 1 + m.Intn(n-1)
			}
			return min(i+1+m.Intn(3), n-1)
		}
		switch end := m.Intn(10); {
		case i == n-1 && (n == 1 || m.Intn(8) > 0) || end == 0 && m.Intn(2) == 0:
			m.f.Nodes[i] = exit()
		case end < 4:
			m.f.Nodes[i] = jump(target())
		default:
			m.f.Nodes[i] = branch(0, target(), target())
		}
	}
	m.prune()
}

func (m *maker) prune() {
	numbers := map[int]int{}
	var kept []api.Node
	var visit func(at int)
	visit = func(at int) {
		if _, ok := numbers[at]; ok {
			return
		}
		numbers[at] = len(kept)
		kept = append(kept, m.f.Nodes[at])
		for _, to := range refSuccessors(m.f.Nodes[at]) {
			visit(to)
		}
	}
	visit(0)
	for i := range kept {
		switch kept[i].End {
		case api.Branch:
			kept[i].Else = numbers[kept[i].Else]
			fallthrough
		case api.Jump:
			kept[i].To = numbers[kept[i].To]
		}
	}
	m.f.Nodes = kept
}

// operand returns a register that may be used; an even one has the same word in all threads of a block.
func (m *maker) operand(even bool) int {
	var l []int
	for _, r := range m.known {
		if m.shared[r] || !even {
			l = append(l, r)
		}
	}
	if len(l) == 0 {
		return m.known[m.Intn(len(m.known))]
	}
	return l[m.Intn(len(l))]
}

// instr makes an instruction with the register d, if it has one, unless it finds none.
func (m *maker) instr(d int, even bool) []api.Instr {
	switch n := m.Intn(20); {
	case n < 3:
		return []api.Instr{constant(d, []int32{0, 1, 2, 3, -1, 40, least, greatest}[m.Intn(8)])}
	case n < 5:
		return []api.Instr{copyOf(d, m.operand(even))}
	case n < 6:
		return []api.Instr{unary(m.Intn(api.Unaries), d, m.operand(even))}
	case n < 9:
		return []api.Instr{binary(m.Intn(api.Binaries), d, m.operand(even), m.operand(even))}
	case n < 10:
		return []api.Instr{special(d, api.Bid+m.Intn(3))}
	case n < 11:
		return m.param(d)
	case n < 16:
		return m.access(d, even)
	case n < 18 && m.Intn(2) == 0 || n < 18 && m.even:
		return []api.Instr{m.meet(d)}
	}
	return nil
}

func (m *maker) param(d int) []api.Instr {
	for i, p := range m.f.Params {
		if !p.Buffer && m.Intn(2) == 0 {
			return []api.Instr{param(d, int32(i))}
		}
	}
	return nil
}

// access makes an access to an array, as it is treated. What is loaded may differ from thread to thread.
func (m *maker) access(d int, even bool) []api.Instr {
	if len(m.arrays) == 0 {
		return nil
	}
	i := m.Intn(len(m.arrays))
	loads := load(d, m.arrays[i], m.operand(false))
	stores := store(m.arrays[i], m.index, m.operand(false))
	sums := atomic(m.ops[i], m.arrays[i], m.operand(false), m.operand(false))
	kinds := []api.Instr{stores, sums, loads}
	switch m.treats[i] {
	case own:
		kinds[1].A, kinds[2].A = m.index, m.index
	case loaded:
		kinds = kinds[2:]
	case summed:
		kinds = kinds[1:2]
	case wild:
		kinds[0].A = m.operand(false)
	}
	x := kinds[m.Intn(len(kinds))]
	if x.Kind == api.ILoad && even {
		return nil
	}
	return []api.Instr{x}
}

// meet makes a barrier or a collect.
func (m *maker) meet(d int) api.Instr {
	m.met++
	number := []int32{0, 1, m.met % 400, 400}[m.Intn(4)]
	if m.Intn(2) == 0 {
		return barrier(number)
	}
	return collect(folds[m.Intn(len(folds))], d, m.operand(false), number)
}

// launch makes a launch of the flow graph, its memory, and turns.
func (m *maker) launch() (api.Launch, api.Mem, []int) {
	mem := make(api.Mem, 1+m.Intn(3))
	for i := range mem {
		for range m.Intn(20) {
			mem[i] = append(mem[i], m.number())
		}
	}
	l := api.Launch{Kernel: "k", Grid: 1 + m.Intn(3), Block: 1 + m.Intn(4)}
	for i, p := range m.f.Params {
		arg := m.number()
		if p.Buffer {
			arg = int32(i % len(mem))
			if m.Intn(8) == 0 {
				arg = int32(m.Intn(len(mem)))
			}
		}
		l.Args = append(l.Args, arg)
	}
	return l, mem, m.turns(300)
}

func (m *maker) number() int32 {
	return []int32{0, 1, 2, 3, 5, -1, -7, 100, greatest, least}[m.Intn(10)]
}

// turns makes at most n turns; some of them are much alike, so that a thread goes on for a while.
func (m *maker) turns(n int) []int {
	var turns []int
	alike := 1 + m.Intn(20)
	turn := 0
	for range m.Intn(n) {
		if m.Intn(alike) == 0 {
			turn = m.Intn(40) - 10
		}
		turns = append(turns, turn)
	}
	return turns
}

// choices makes choices at the Branches of a path.
func (m *maker) choices(n int) []bool {
	var l []bool
	for range n {
		l = append(l, m.Intn(2) == 0)
	}
	return l
}

// damage changes one number of a flow graph: often one of a register.
func (m *maker) damage(f *api.Flow) {
	numbers := []*int{&f.Regs}
	var registers []*int
	for i := range f.Nodes {
		n := &f.Nodes[i]
		numbers = append(numbers, &n.End, &n.A, &n.To, &n.Else)
		for j := range n.Instrs {
			x := &n.Instrs[j]
			numbers = append(numbers, &x.Kind, &x.Op, &x.D, &x.A, &x.B)
			registers = append(registers, &x.D)
			for k := range x.Args {
				registers = append(registers, &x.Args[k])
			}
		}
	}
	if len(registers) > 0 && m.Intn(3) > 0 {
		numbers = registers
	}
	*numbers[m.Intn(len(numbers))] = m.Intn(f.Regs+3) - 1
}
