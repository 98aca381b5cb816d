package flow_test

import (
	"math/rand"
	"slices"

	"drawloom/api"
)

// How the flow graph of a maker treats an array.
const (
	own    = iota // each thread its own cells only
	loaded        // nothing but loads
	summed        // nothing but atomic operations with one operator
	wild          // anything
	treatments
)

// maker makes flow graphs, programs and launches, the same ones each time.
type maker struct {
	*rand.Rand
	f      api.Flow
	arrays []int32
	treats []int
	ops    []int
	same   bool // whether all threads of a block go the same way
	met    int32
}

func newMaker(seed int64) *maker { return &maker{Rand: rand.New(rand.NewSource(seed))} }

// The registers of a made flow graph: the thread's own index, those whose words may differ from thread to thread, and from shares on those whose words are the same in all threads of a block.
const (
	ownIndex = 0
	shares   = 5
	allRegs  = 8
)

// graph makes a valid flow graph. Many of its launches end, and many are free of races.
func (m *maker) graph() api.Flow {
	m.f = api.Flow{Name: "k", Regs: allRegs}
	m.arrays, m.treats, m.ops = nil, nil, nil
	for i := range m.Intn(4) {
		p := api.Param{Name: string(rune('a' + i)), Buffer: m.Intn(3) > 0}
		m.f.Params = append(m.f.Params, p)
		if p.Buffer {
			m.array(int32(i))
		}
	}
	for i := range m.Intn(3) {
		m.f.Shared = append(m.f.Shared, api.Array{Name: string(rune('p' + i)), Size: 1 + m.Intn(8)})
		m.array(int32(6 + i))
	}
	m.same = m.Intn(2) == 0
	m.edges()
	m.prune()
	for i := range m.f.Nodes {
		m.fill(i)
	}
	if m.Intn(3) == 0 {
		m.split()
	}
	return m.f
}

func (m *maker) array(imm int32) {
	m.arrays = append(m.arrays, imm)
	m.treats = append(m.treats, m.Intn(treatments))
	m.ops = append(m.ops, folds[m.Intn(len(folds))])
}

// edges makes the nodes with their ends, which lead forwards mostly.
func (m *maker) edges() {
	n := 1 + m.Intn(8)
	m.f.Nodes = make([]api.Node, n)
	for i := range m.f.Nodes {
		target := func() int {
			if m.Intn(6) == 0 || i == n-1 {
				return 1 + m.Intn(n-1)
			}
			return min(i+1+m.Intn(3), n-1)
		}
		switch end := m.Intn(10); {
		case i == n-1 && (n == 1 || m.Intn(8) > 0) || end == 0:
			m.f.Nodes[i] = exit()
		case end < 4:
			m.f.Nodes[i] = jump(target())
		default:
			m.f.Nodes[i] = branch(m.condition(), target(), target())
		}
	}
}

// condition returns a register for a Branch.
func (m *maker) condition() int {
	if m.same {
		return shares + m.Intn(allRegs-shares)
	}
	return m.Intn(allRegs)
}

// prune removes the nodes that cannot be reached.
func (m *maker) prune() {
	numbers := map[int]int{}
	var kept []api.Node
	var visit func(at int)
	visit = func(at int) {
		if _, ok := numbers[at]; ok {
			return
		}
		numbers[at] = len(kept)
		kept = append(kept, m.f.Nodes[at])
		for _, to := range refSuccessors(m.f.Nodes[at]) {
			visit(to)
		}
	}
	visit(0)
	for i := range kept {
		switch kept[i].End {
		case api.Branch:
			kept[i].Else = numbers[kept[i].Else]
			fallthrough
		case api.Jump:
			kept[i].To = numbers[kept[i].To]
		}
	}
	m.f.Nodes = kept
}

// fill makes the instructions of a node.
func (m *maker) fill(at int) {
	var l []api.Instr
	if at == 0 {
		l = []api.Instr{special(1, api.Bid), special(2, api.Dim), special(3, api.Tid), binary(api.Mul, ownIndex, 1, 2), binary(api.Add, ownIndex, ownIndex, 3)}
	} else if m.Intn(2) == 0 {
		l = m.phis(len(refPredecessors(m.f, at)))
	}
	for range m.Intn(6) {
		x, ok := m.instr()
		if ok {
			l = append(l, x)
		}
	}
	m.f.Nodes[at].Instrs = l
}

// phis makes the IPhis of a node.
func (m *maker) phis(predecessors int) []api.Instr {
	var l []api.Instr
	for d := 1; d < allRegs; d++ {
		if m.Intn(3) > 0 {
			continue
		}
		x := phi(d)
		for range predecessors {
			x.Args = append(x.Args, m.operand(d))
		}
		l = append(l, x)
	}
	m.Shuffle(len(l), func(i, j int) { l[i], l[j] = l[j], l[i] })
	return l
}

// operand returns a register from which d may get its word.
func (m *maker) operand(d int) int {
	if d >= shares {
		return shares + m.Intn(allRegs-shares)
	}
	return m.Intn(allRegs)
}

// instr makes an instruction, if it finds one.
func (m *maker) instr() (api.Instr, bool) {
	d := 1 + m.Intn(allRegs-1)
	switch n := m.Intn(20); {
	case n < 3:
		return constant(d, []int32{0, 1, 2, 3, -1, 40, least, greatest}[m.Intn(8)]), true
	case n < 4:
		return api.Instr{Kind: api.ICopy, D: d, A: m.operand(d)}, true
	case n < 5:
		return api.Instr{Kind: api.IUnary, Op: m.Intn(api.Unaries), D: d, A: m.operand(d)}, true
	case n < 8:
		return binary(m.Intn(api.Binaries), d, m.operand(d), m.operand(d)), true
	case n < 9:
		return special(1+m.Intn(shares-1), m.Intn(api.Specials)), true
	case n < 10:
		return special(d, api.Bid+m.Intn(3)), true
	case n < 11:
		return m.param(d)
	case n < 16:
		return m.access()
	case n < 18 && m.Intn(2) == 0 || n < 18 && m.same:
		return m.meet(d), true
	}
	return api.Instr{}, false
}

func (m *maker) param(d int) (api.Instr, bool) {
	for i, p := range m.f.Params {
		if !p.Buffer && m.Intn(2) == 0 {
			return api.Instr{Kind: api.IParam, D: d, Imm: int32(i)}, true
		}
	}
	return api.Instr{}, false
}

// access makes an access to an array, as it is treated.
func (m *maker) access() (api.Instr, bool) {
	if len(m.arrays) == 0 {
		return api.Instr{}, false
	}
	i := m.Intn(len(m.arrays))
	loads := load(1+m.Intn(shares-1), m.arrays[i], m.Intn(allRegs))
	stores := store(m.arrays[i], ownIndex, m.Intn(allRegs))
	sums := atomic(m.ops[i], m.arrays[i], m.Intn(allRegs), m.Intn(allRegs))
	kinds := []api.Instr{loads, stores, sums}
	switch m.treats[i] {
	case own:
		kinds[0].A, kinds[2].A = ownIndex, ownIndex
	case loaded:
		kinds = kinds[:1]
	case summed:
		kinds = kinds[2:]
	case wild:
		kinds[1].A = m.Intn(allRegs)
	}
	return kinds[m.Intn(len(kinds))], true
}

// meet makes a barrier or a collect; d may get the same word in all threads.
func (m *maker) meet(d int) api.Instr {
	m.met++
	number := []int32{0, 1, m.met % 400, 400}[m.Intn(4)]
	if m.Intn(2) == 0 {
		return barrier(number)
	}
	return collect(folds[m.Intn(len(folds))], d, m.Intn(allRegs), number)
}

// split lets a flow graph begin with two ways, on which threads meet at the same barriers by different instructions.
func (m *maker) split() {
	preamble := m.f.Nodes[0].Instrs[:5]
	nodes := slices.Clone(m.f.Nodes)
	for i := range nodes {
		n := &nodes[i]
		if n.End != api.Exit {
			n.To += 3
		}
		if n.End == api.Branch {
			n.Else += 3
		}
	}
	ways := [2][]api.Instr{}
	for range 1 + m.Intn(3) {
		number := int32(m.Intn(401))
		op := m.Intn(len(folds))
		for i := range ways {
			x := barrier(number)
			if m.Intn(3) > 0 {
				x = collect(folds[(op+m.Intn(2))%len(folds)], 1+m.Intn(shares-1), m.Intn(allRegs), number)
			}
			ways[i] = append(ways[i], x)
		}
	}
	first := branch(4, 1, 2, slices.Concat(preamble, []api.Instr{special(4, api.Tid), constant(3, int32(1+m.Intn(2))), binary(api.And, 4, 4, 3)})...)
	m.f.Nodes = append([]api.Node{first, jump(3, ways[0]...), jump(3, ways[1]...)}, nodes...)
}

// launch makes a launch of a kernel with some parameters, its memory, and turns.
func (m *maker) launch(l []api.Param) (api.Launch, api.Mem, []int) {
	mem := make(api.Mem, 1+m.Intn(3))
	for i := range mem {
		for range m.Intn(20) {
			mem[i] = append(mem[i], m.number())
		}
	}
	x := api.Launch{Kernel: "k", Grid: 1 + m.Intn(3), Block: 1 + m.Intn(4)}
	for i, p := range l {
		arg := m.number()
		if p.Buffer {
			arg = int32(i % len(mem))
			if m.Intn(8) == 0 {
				arg = int32(m.Intn(len(mem)))
			}
		}
		x.Args = append(x.Args, arg)
	}
	return x, mem, m.turns(300)
}

func (m *maker) number() int32 {
	return []int32{0, 1, 2, 3, 5, -1, -7, 100, greatest, least}[m.Intn(10)]
}

// turns makes at most n turns; some of them are much alike, so that a thread goes on for a while.
func (m *maker) turns(n int) []int {
	var turns []int
	alike := 1 + m.Intn(20)
	turn := 0
	for range m.Intn(n) {
		if m.Intn(alike) == 0 {
			turn = m.Intn(40) - 10
		}
		turns = append(turns, turn)
	}
	return turns
}

// damage changes one number of a flow graph.
func (m *maker) damage(f *api.Flow) {
	numbers := []*int{&f.Regs}
	var imm []*int32
	for i := range f.Nodes {
		n := &f.Nodes[i]
		numbers = append(numbers, &n.End, &n.A, &n.To, &n.Else)
		for j := range n.Instrs {
			x := &n.Instrs[j]
			numbers = append(numbers, &x.Kind, &x.Op, &x.D, &x.A, &x.B)
			imm = append(imm, &x.Imm)
			for k := range x.Args {
				numbers = append(numbers, &x.Args[k])
			}
		}
	}
	if len(imm) > 0 && m.Intn(6) == 0 {
		*imm[m.Intn(len(imm))] = []int32{least, -1, 0, 1, 2, 3, 6, 7, 8, 400, 401, greatest}[m.Intn(12)]
		return
	}
	*numbers[m.Intn(len(numbers))] = []int{least, -1, 0, 1, 2, 3, 4, 7, 8, 11, 12, 2000, 2001, greatest}[m.Intn(14)]
}
