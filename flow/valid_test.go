package flow_test

import (
	"slices"
	"strings"
	"testing"

	"drawloom/api"
	"drawloom/flow"
)

// fullGraph returns a valid flow graph with all kinds of instructions and ends: 0 leads to 1; 1 to 2 and 3; 2 to 1; 3 ends.
func fullGraph() api.Flow {
	return graph(
		jump(1, constant(0, least), special(1, api.Grid), api.Instr{Kind: api.IParam, D: 2, Imm: 2}, api.Instr{Kind: api.ICopy, D: 3, A: 9}),
		branch(9, 2, 3, phi(4, 0, 1), phi(5, 2, 9), api.Instr{Kind: api.IUnary, Op: api.Zero, D: 6, A: 9}, binary(api.Max, 7, 9, 8)),
		jump(1, load(8, 1, 9), store(7, 9, 8), atomic(api.Xor, 0, 9, 8)),
		exit(phi(4, 9), barrier(400), collect(api.Min, 9, 8, 0), load(0, 6, 0)),
	)
}

// wantValid checks whether a flow graph is valid, and that the other functions agree.
func wantValid(t *testing.T, f api.Flow, want bool, what any) {
	t.Helper()
	if flow.Valid(f) != want {
		t.Errorf("%v: Valid is not %v", what, want)
	}
	e := api.ErrForm
	if want {
		e = api.OK
	}
	if l, got := flow.Successors(f); got != e || !want && !zero(l) {
		t.Errorf("%v: Successors: %v, %d", what, l, got)
	}
	if l, got := flow.Predecessors(f); got != e || !want && !zero(l) {
		t.Errorf("%v: Predecessors: %v, %d", what, l, got)
	}
	if r, got := flow.Run(f, api.Launch{}, nil, nil, 0); !want && got != api.ErrForm || want && got != api.ErrArg || !zero(r) {
		t.Errorf("%v: Run: %v, %d", what, r, got)
	}
}

// TestValid changes one thing of a valid flow graph.
func TestValid(t *testing.T) {
	wantValid(t, fullGraph(), true, "full")
	wantValid(t, api.Flow{}, false, "zero")
	for what, x := range map[string]struct {
		change func(f *api.Flow)
		valid  bool
	}{
		"empty":               {func(f *api.Flow) { *f = api.Flow{Name: "k", Nodes: []api.Node{exit()}} }, true},
		"no nodes":            {func(f *api.Flow) { f.Nodes = nil }, false},
		"empty nodes":         {func(f *api.Flow) { f.Nodes = []api.Node{} }, false},
		"no name":             {func(f *api.Flow) { f.Name = "" }, false},
		"word of language":    {func(f *api.Flow) { f.Name = "tid" }, false},
		"long name":           {func(f *api.Flow) { f.Name = strings.Repeat("k", 17) }, false},
		"longest name":        {func(f *api.Flow) { f.Name = strings.Repeat("k", 16) }, true},
		"name of param":       {func(f *api.Flow) { f.Name = "a" }, true},
		"name of array":       {func(f *api.Flow) { f.Name = "s" }, true},
		"no param name":       {func(f *api.Flow) { f.Params[2].Name = "" }, false},
		"bad param name":      {func(f *api.Flow) { f.Params[2].Name = "1a" }, false},
		"params alike":        {func(f *api.Flow) { f.Params[2].Name = "a" }, false},
		"param like array":    {func(f *api.Flow) { f.Params[2].Name = "s" }, false},
		"arrays alike":        {func(f *api.Flow) { f.Shared[1].Name = "s" }, false},
		"bad array name":      {func(f *api.Flow) { f.Shared[1].Name = "int" }, false},
		"no cells":            {func(f *api.Flow) { f.Shared[1].Size = 0 }, false},
		"negative cells":      {func(f *api.Flow) { f.Shared[1].Size = -1 }, false},
		"most cells":          {func(f *api.Flow) { f.Shared[1].Size = 64 }, true},
		"too many cells":      {func(f *api.Flow) { f.Shared[1].Size = 65 }, false},
		"most params":         {func(f *api.Flow) { f.Params = append(f.Params, params("p", "q", "o")...) }, true},
		"too many params":     {func(f *api.Flow) { f.Params = append(f.Params, params("p", "q", "o", "m")...) }, false},
		"most arrays":         {func(f *api.Flow) { f.Shared = append(f.Shared, arrays("p", "q")...) }, true},
		"too many arrays":     {func(f *api.Flow) { f.Shared = append(f.Shared, arrays("p", "q", "o")...) }, false},
		"too few registers":   {func(f *api.Flow) { f.Regs = 9 }, false},
		"negative registers":  {func(f *api.Flow) { *f = graph(exit()); f.Regs = -1 }, false},
		"no registers":        {func(f *api.Flow) { *f = graph(exit()); f.Regs = 0 }, true},
		"no register for 0":   {func(f *api.Flow) { *f = graph(exit(constant(0, 0))); f.Regs = 0 }, false},
		"no branch register":  {func(f *api.Flow) { *f = graph(branch(0, 1, 1), exit()); f.Regs = 0 }, false},
		"more registers":      {func(f *api.Flow) { f.Regs = 11 }, true},
		"most registers":      {func(f *api.Flow) { f.Regs = 2000 }, true},
		"too many registers":  {func(f *api.Flow) { f.Regs = 2001 }, false},
		"jump to 0":           {func(f *api.Flow) { f.Nodes[2].To = 0; f.Nodes[1].Instrs = nil }, false},
		"jump to itself":      {func(f *api.Flow) { *f = graph(jump(1), jump(1)) }, true},
		"0 to itself":         {func(f *api.Flow) { *f = graph(jump(0)) }, false},
		"branch to 0":         {func(f *api.Flow) { *f = graph(jump(1), branch(0, 0, 1)) }, false},
		"branch else 0":       {func(f *api.Flow) { *f = graph(jump(1), branch(0, 1, 0)) }, false},
		"jump too far":        {func(f *api.Flow) { *f = graph(jump(1), branch(0, 1, 2), jump(3)) }, false},
		"branch too far":      {func(f *api.Flow) { *f = graph(branch(0, 2, 1), exit()) }, false},
		"else too far":        {func(f *api.Flow) { *f = graph(branch(0, 1, 2), exit()) }, false},
		"jump before":         {func(f *api.Flow) { *f = graph(jump(1), branch(0, 1, 2), jump(-1)) }, false},
		"branch before":       {func(f *api.Flow) { *f = graph(branch(0, -1, 1), exit()) }, false},
		"else before":         {func(f *api.Flow) { *f = graph(branch(0, 1, -1), exit()) }, false},
		"both the same":       {func(f *api.Flow) { *f = graph(branch(0, 1, 1), exit(phi(0, 0))) }, true},
		"same counts once":    {func(f *api.Flow) { *f = graph(branch(0, 1, 1), exit(phi(0, 0, 0))) }, false},
		"not reached":         {func(f *api.Flow) { *f = graph(exit(), exit()) }, false},
		"reached from itself": {func(f *api.Flow) { *f = graph(exit(), jump(1)) }, false},
		"reached from others": {func(f *api.Flow) { *f = graph(exit(), jump(2), jump(1)) }, false},
		"reached backwards":   {func(f *api.Flow) { *f = graph(jump(3), exit(), jump(1), jump(2)) }, true},
		"reached by else":     {func(f *api.Flow) { *f = graph(branch(0, 1, 2), exit(), exit()) }, true},
		"no end":              {func(f *api.Flow) { f.Nodes[3].End = 3 }, false},
		"negative end":        {func(f *api.Flow) { f.Nodes[3].End = -1 }, false},
		"exit with A":         {func(f *api.Flow) { f.Nodes[3].A = 1 }, false},
		"exit with To":        {func(f *api.Flow) { f.Nodes[3].To = 1 }, false},
		"exit with Else":      {func(f *api.Flow) { f.Nodes[3].Else = 1 }, false},
		"jump with A":         {func(f *api.Flow) { f.Nodes[0].A = 1 }, false},
		"jump with Else":      {func(f *api.Flow) { f.Nodes[0].Else = 1 }, false},
		"branch on 10":        {func(f *api.Flow) { f.Nodes[1].A = 10 }, false},
		"branch on -1":        {func(f *api.Flow) { f.Nodes[1].A = -1 }, false},
		"negative kind":       {func(f *api.Flow) { f.Nodes[0].Instrs[0].Kind = -1 }, false},
		"no kind":             {func(f *api.Flow) { f.Nodes[0].Instrs[0] = api.Instr{Kind: api.IKinds} }, false},
		"instruction of 0":    {func(f *api.Flow) { f.Nodes[0].Instrs[0] = api.Instr{} }, true},
		"phi in 0":            {func(f *api.Flow) { f.Nodes[0].Instrs = []api.Instr{phi(0)} }, false},
		"phi behind":          {func(f *api.Flow) { f.Nodes[3].Instrs = []api.Instr{barrier(0), phi(4, 9)} }, false},
		"phi between":         {func(f *api.Flow) { f.Nodes[3].Instrs = []api.Instr{phi(1, 1), barrier(0), phi(4, 9)} }, false},
		"only phis":           {func(f *api.Flow) { f.Nodes[3].Instrs = []api.Instr{phi(1, 4), phi(4, 1), phi(0, 0)} }, true},
		"phis alike":          {func(f *api.Flow) { f.Nodes[1].Instrs[1].D = 4 }, false},
		"phi and another":     {func(f *api.Flow) { f.Nodes[1].Instrs[2].D = 4 }, true},
		"too few args":        {func(f *api.Flow) { f.Nodes[1].Instrs[0].Args = []int{0} }, false},
		"no args":             {func(f *api.Flow) { f.Nodes[1].Instrs[0].Args = nil }, false},
		"too many args":       {func(f *api.Flow) { f.Nodes[1].Instrs[0].Args = []int{0, 1, 2} }, false},
		"arg too great":       {func(f *api.Flow) { f.Nodes[1].Instrs[0].Args[1] = 10 }, false},
		"negative arg":        {func(f *api.Flow) { f.Nodes[1].Instrs[0].Args[0] = -1 }, false},
		"empty args":          {func(f *api.Flow) { f.Nodes[0].Instrs[0].Args = []int{} }, true},
	} {
		f := fullGraph()
		x.change(&f)
		wantValid(t, f, x.valid, what)
	}
}

func params(names ...string) []api.Param {
	var l []api.Param
	for _, name := range names {
		l = append(l, api.Param{Name: name})
	}
	return l
}

func arrays(names ...string) []api.Array {
	var l []api.Array
	for _, name := range names {
		l = append(l, api.Array{Name: name, Size: 1})
	}
	return l
}

// TestValidInstr checks each field of each kind of instruction.
func TestValidInstr(t *testing.T) {
	words := []int32{least, -7, -1, 0, 1, 2, 3, 5, 6, 7, 8, 9, 10, 11, 12, 19, 20, 399, 400, 401, greatest}
	for kind := range api.IKinds {
		base := api.Instr{Kind: kind}
		switch kind {
		case api.IParam:
			base.Imm = 2
		case api.IPhi:
			base.Args = []int{0}
		}
		for _, word := range words {
			for field := range 5 {
				x := base
				x.Args = slices.Clone(base.Args)
				switch field {
				case 0:
					x.Op = int(word)
				case 1:
					x.D = int(word)
				case 2:
					x.A = int(word)
				case 3:
					x.B = int(word)
				case 4:
					x.Imm = word
				}
				f := graph(jump(1), exit(x))
				wantValid(t, f, refValid(f), x)
			}
		}
		for n := range 4 {
			x := base
			x.Args = make([]int, n)
			wantValid(t, graph(jump(1), exit(x)), (kind == api.IPhi) == (n == 1) && (kind == api.IPhi || n == 0), x)
		}
	}
	for op := range 21 { // an operator of one register, of two, a special value, and one that folds
		wantValid(t, graph(exit(api.Instr{Kind: api.IUnary, Op: op})), op < 3, op)
		wantValid(t, graph(exit(api.Instr{Kind: api.IBinary, Op: op})), op < 20, op)
		wantValid(t, graph(exit(special(0, op))), op < 4, op)
		wantValid(t, graph(exit(atomic(op, 0, 0, 0))), slices.Contains(folds, op), op)
		wantValid(t, graph(exit(collect(op, 0, 0, 0))), slices.Contains(folds, op), op)
	}
}

// TestValidArrays checks which arrays there are: for parameters only, and for shared arrays only.
func TestValidArrays(t *testing.T) {
	for _, x := range []struct {
		params []api.Param
		shared []api.Array
		want   []int32
	}{
		{nil, nil, nil},
		{[]api.Param{{Name: "a"}}, nil, nil},
		{[]api.Param{{Name: "a"}, {Name: "b", Buffer: true}}, nil, []int32{1}},
		{nil, arrays("a"), []int32{6}},
		{params("e", "f", "g", "h", "i", "j"), arrays("a", "b", "c", "d"), []int32{6, 7, 8, 9}},
	} {
		for imm := int32(-2); imm < 12; imm++ {
			for _, i := range []api.Instr{load(0, imm, 0), store(imm, 0, 0), atomic(api.Or, imm, 0, 0)} {
				f := api.Flow{Name: "k", Params: x.params, Shared: x.shared, Regs: 1, Nodes: []api.Node{exit(i)}}
				wantValid(t, f, slices.Contains(x.want, imm), f)
			}
			f := api.Flow{Name: "k", Params: x.params, Shared: x.shared, Regs: 1, Nodes: []api.Node{exit(api.Instr{Kind: api.IParam, Imm: imm})}}
			wantValid(t, f, 0 <= imm && int(imm) < len(x.params) && !x.params[imm].Buffer, f)
		}
	}
}

// TestValidSize checks the number of nodes and instructions together.
func TestValidSize(t *testing.T) {
	for _, x := range []struct{ nodes, instrs int }{{1, 1999}, {2000, 0}, {1999, 1}, {1000, 1000}, {2, 1998}} {
		for more := range 2 {
			wantValid(t, longGraph(x.nodes, x.instrs+more), more == 0, x)
			wantValid(t, longGraph(x.nodes+more, x.instrs), more == 0, x)
		}
	}
	wantValid(t, api.Flow{Name: "k", Nodes: make([]api.Node, 1<<20)}, false, "many nodes")
	wantValid(t, longGraph(1, 1<<20), false, "many instructions")
	wantValid(t, api.Flow{Name: "k", Params: make([]api.Param, 1<<20), Nodes: []api.Node{exit()}}, false, "many parameters")
	f := graph(jump(1), exit(phi(0)))
	f.Nodes[1].Instrs[0].Args = make([]int, 1<<20)
	wantValid(t, f, false, "many args")
}

// longGraph returns a chain of nodes, with instructions in the last one.
func longGraph(nodes, instrs int) api.Flow {
	var f api.Flow = graph()
	for i := range nodes - 1 {
		f.Nodes = append(f.Nodes, jump(i+1))
	}
	f.Nodes = append(f.Nodes, exit(make([]api.Instr, instrs)...))
	return f
}

// TestValidMade compares made flow graphs, in which one number is changed, with the second definition.
func TestValidMade(t *testing.T) {
	valid := 0
	for seed := range 6000 {
		m := newMaker(int64(seed))
		f := m.graph()
		if !refValid(f) || !flow.Valid(f) {
			t.Fatalf("%d: not valid: %v", seed, f)
		}
		for range 10 {
			g := copyFlow(f)
			m.damage(&g)
			want := refValid(g)
			if flow.Valid(g) != want {
				t.Fatalf("%d: want %v: %v", seed, want, g)
			}
			if want {
				valid++
			}
		}
	}
	if valid < 6000 || valid > 54000 {
		t.Errorf("%d are valid", valid)
	}
}

// refUses are the registers of each kind of instruction.
var refUses = map[int]string{
	api.IConst: "D", api.ICopy: "DA", api.IUnary: "DA", api.IBinary: "DAB", api.ISpecial: "D", api.IParam: "D",
	api.ILoad: "DA", api.IStore: "AB", api.IAtomic: "AB", api.IBarrier: "", api.ICollect: "DA", api.IPhi: "D",
}

// refValid is the chapter's definition once more, but for the name, the parameters and the shared arrays.
func refValid(f api.Flow) bool {
	size := len(f.Nodes)
	for _, n := range f.Nodes {
		size += len(n.Instrs)
	}
	if f.Regs < 0 || f.Regs > 2000 || len(f.Nodes) == 0 || size > 2000 {
		return false
	}
	for _, n := range f.Nodes {
		if n.End < api.Jump || n.End > api.Exit || n.End != api.Branch && (n.A != 0 || n.Else != 0) || n.End == api.Exit && n.To != 0 {
			return false
		}
		if n.End == api.Branch && (n.A < 0 || n.A >= f.Regs) {
			return false
		}
		for _, to := range refSuccessors(n) {
			if to <= 0 || to >= len(f.Nodes) {
				return false
			}
		}
	}
	reached := map[int]bool{0: true}
	for range f.Nodes { // no path needs more edges
		for at := range f.Nodes {
			if reached[at] {
				for _, to := range refSuccessors(f.Nodes[at]) {
					reached[to] = true
				}
			}
		}
	}
	if len(reached) != len(f.Nodes) {
		return false
	}
	for at := range f.Nodes {
		if !refValidNode(f, at) {
			return false
		}
	}
	return true
}

func refSuccessors(n api.Node) []int {
	return [][]int{{n.To}, {n.To, n.Else}, {}}[n.End]
}

func refPredecessors(f api.Flow, node int) []int {
	var l []int
	for at, n := range f.Nodes {
		if slices.Contains(refSuccessors(n), node) {
			l = append(l, at)
		}
	}
	return l
}

func refValidNode(f api.Flow, at int) bool {
	instrs := f.Nodes[at].Instrs
	var assigned []int
	for i, x := range instrs {
		if !refValidInstr(f, x, len(refPredecessors(f, at))) {
			return false
		}
		if x.Kind != api.IPhi {
			continue
		}
		if at == 0 || i > 0 && instrs[i-1].Kind != api.IPhi || slices.Contains(assigned, x.D) {
			return false
		}
		assigned = append(assigned, x.D)
	}
	return true
}

func refValidInstr(f api.Flow, x api.Instr, predecessors int) bool {
	uses, ok := refUses[x.Kind]
	registers := slices.Clone(x.Args)
	for i, r := range []int{x.D, x.A, x.B} {
		if strings.Contains(uses, "DAB"[i:i+1]) {
			registers = append(registers, r)
		} else if r != 0 {
			return false
		}
	}
	for _, r := range registers {
		if r < 0 || r >= f.Regs {
			return false
		}
	}
	if x.Kind != api.IPhi {
		predecessors = 0
	}
	return ok && len(x.Args) == predecessors && refValidOp(x) && refValidImm(f, x)
}

func refValidOp(x api.Instr) bool {
	switch x.Kind {
	case api.IUnary:
		return x.Op >= 0 && x.Op < api.Unaries
	case api.IBinary:
		return x.Op >= 0 && x.Op < api.Binaries
	case api.ISpecial:
		return x.Op >= 0 && x.Op < api.Specials
	case api.IAtomic, api.ICollect:
		return slices.Contains(folds, x.Op)
	}
	return x.Op == 0
}

func refValidImm(f api.Flow, x api.Instr) bool {
	imm := int(x.Imm)
	switch x.Kind {
	case api.IConst:
		return true
	case api.IParam:
		for i, p := range f.Params {
			if i == imm && !p.Buffer {
				return true
			}
		}
		return false
	case api.ILoad, api.IStore, api.IAtomic:
		var l []int
		for i, p := range f.Params {
			if p.Buffer {
				l = append(l, i)
			}
		}
		for i := range f.Shared {
			l = append(l, 6+i)
		}
		return slices.Contains(l, imm)
	case api.IBarrier, api.ICollect:
		return imm >= 0 && imm <= 400
	}
	return imm == 0
}
