package check_test

import (
	"slices"
	"testing"

	"drawloom/api"
	"drawloom/check"
	"drawloom/syntax"
)

// renamed returns a copy of a program in which functions and kernels get the names that title returns, and all other names those that name returns for the number of their function or kernel.
func renamed(p api.Program, title func(s string) string, name func(unit int, s string) string) api.Program {
	var out api.Program
	for i, f := range p.Funcs {
		g := api.Func{Name: title(f.Name)}
		r := renamer{title, func(s string) string { return name(i, s) }}
		for _, s := range f.Params {
			g.Params = append(g.Params, r.name(s))
		}
		g.Body = r.stmts(f.Body)
		out.Funcs = append(out.Funcs, g)
	}
	for i, k := range p.Kernels {
		l := api.Kernel{Name: title(k.Name)}
		r := renamer{title, func(s string) string { return name(len(p.Funcs)+i, s) }}
		for _, x := range k.Params {
			l.Params = append(l.Params, api.Param{Name: r.name(x.Name), Buffer: x.Buffer})
		}
		for _, a := range k.Shared {
			l.Shared = append(l.Shared, api.Array{Name: r.name(a.Name), Size: a.Size})
		}
		l.Body = r.stmts(k.Body)
		out.Kernels = append(out.Kernels, l)
	}
	return out
}

// renamer gives new names to titles and to all other names.
type renamer struct {
	title, name func(s string) string
}

func (r renamer) stmts(l []api.Stmt) []api.Stmt {
	var out []api.Stmt
	for _, s := range l {
		if s.Name != "" {
			s.Name = r.name(s.Name)
		}
		s.Exprs, s.Body, s.Else = r.exprs(s.Exprs), r.stmts(s.Body), r.stmts(s.Else)
		out = append(out, s)
	}
	return out
}

func (r renamer) exprs(l []api.Expr) []api.Expr {
	var out []api.Expr
	for _, x := range l {
		if x.Kind == api.ECall {
			x.Name = r.title(x.Name)
		} else if x.Name != "" {
			x.Name = r.name(x.Name)
		}
		x.Kids = r.exprs(x.Kids)
		out = append(out, x)
	}
	return out
}

// turned returns a function that gives each name the one that stands some places further in the list of all names.
func turned(places int) func(s string) string {
	return func(s string) string {
		at := slices.Index(allNames, s)
		return allNames[(at+places)%len(allNames)]
	}
}

// TestRenamed renames all names one to one: with one new name for each, and with new names that functions, kernels and the names in them do not share.
func TestRenamed(t *testing.T) { // P4.1
	tried := 0
	valid(t, func(p api.Program) {
		name, e := check.Check(p)
		for _, places := range []int{1, 4} {
			one := turned(places)
			for _, q := range []api.Program{
				renamed(p, one, func(unit int, s string) string { return one(s) }),
				renamed(p, one, func(unit int, s string) string { return turned(places + 1 + unit)(s) }),
			} {
				if !syntax.Valid(q) {
					continue // its text has become too long
				}
				tried++
				want := ""
				if name != "" {
					want = one(name)
				}
				if got, f := check.Check(q); got != want || f != e {
					t.Fatalf("%v: %q, %d, and renamed %q, %d", p, name, e, got, f)
				}
			}
		}
	})
	if tried < 12000 {
		t.Errorf("only %d programs", tried)
	}
}

// TestApart checks each kernel without the other ones.
func TestApart(t *testing.T) { // P4.2
	several := 0
	valid(t, func(p api.Program) {
		if _, e := check.Check(api.Program{Funcs: p.Funcs}); e != api.OK {
			return
		}
		var titles []string
		for _, f := range p.Funcs {
			titles = append(titles, f.Name)
		}
		want := sound
		for _, k := range p.Kernels {
			alone := want
			if slices.Contains(titles, k.Name) {
				alone = violation{k.Name, api.ErrTwice}
			} else {
				alone.name, alone.e = check.Check(api.Program{Funcs: p.Funcs, Kernels: []api.Kernel{k}})
			}
			if want == sound {
				want = alone
			}
			titles = append(titles, k.Name)
		}
		if len(p.Kernels) > 1 {
			several++
		}
		if name, e := check.Check(p); name != want.name || e != want.e {
			t.Fatalf("%v: %q, %d, want %v", p, name, e, want)
		}
	})
	if several < 500 {
		t.Errorf("only %d programs with several kernels", several)
	}
}

// TestPrefix takes functions away from sound programs, from the last one on.
func TestPrefix(t *testing.T) { // P4.3
	taken := 0
	valid(t, func(p api.Program) {
		if _, e := check.Check(p); e != api.OK {
			return
		}
		for n := range p.Funcs {
			taken++
			if name, e := check.Check(api.Program{Funcs: p.Funcs[:n]}); name != "" || e != api.OK {
				t.Fatalf("%d functions of %v: %q, %d", n, p, name, e)
			}
		}
	})
	if taken < 1000 {
		t.Errorf("only %d times", taken)
	}
}

// walker executes a program without words: it only knows which names have a value, and goes any way that a condition could lead.
type walker struct {
	*maker
	program api.Program
	values  map[string]bool // the variables and integer parameters that have a value now
	arrays  map[string]bool
	callers int // how many functions of the program may be called
	steps   int
	lost    string // a name that had no value when it was used
}

// What a statement leads to.
const (
	goesOn = iota
	breaks
	continues
	ends
)

func (w *walker) need(known bool, name string) {
	if !known {
		w.lost = name
	}
}

// list executes statements; the variables of the list have no value after it.
func (w *walker) list(l []api.Stmt) int {
	var own []string
	defer func() {
		for _, name := range own {
			delete(w.values, name)
		}
	}()
	for _, s := range l {
		if w.steps--; w.steps < 0 {
			return ends
		}
		if s.Kind == api.SLet || s.Kind == api.SCollect {
			w.exprs(s.Exprs)
			own = append(own, s.Name)
			w.values[s.Name] = true
			continue
		}
		if way := w.stmt(s); way != goesOn {
			return way
		}
	}
	return goesOn
}

func (w *walker) stmt(s api.Stmt) int {
	switch s.Kind {
	case api.SSet:
		w.need(w.values[s.Name], s.Name)
	case api.SPut, api.SAtomic:
		w.need(w.arrays[s.Name], s.Name)
	case api.SBreak:
		return breaks
	case api.SContinue:
		return continues
	case api.SWhile:
		return w.loop(s)
	}
	w.exprs(s.Exprs)
	switch {
	case s.Kind == api.SReturn && w.Intn(3) == 0: // mostly it goes on, to see what follows
		return ends
	case s.Kind == api.SIf && w.Intn(2) == 0:
		return w.list(s.Body)
	case s.Kind == api.SIf:
		return w.list(s.Else)
	}
	return goesOn
}

func (w *walker) loop(s api.Stmt) int {
	for {
		w.exprs(s.Exprs)
		if w.Intn(3) == 0 || w.steps < 0 {
			return goesOn
		}
		switch w.list(s.Body) {
		case breaks:
			return goesOn
		case ends:
			return ends
		}
	}
}

func (w *walker) exprs(l []api.Expr) {
	for _, x := range l {
		switch x.Kind {
		case api.EName:
			w.need(w.values[x.Name], x.Name)
		case api.ELoad:
			w.need(w.arrays[x.Name], x.Name)
		}
		w.exprs(x.Kids)
		if x.Kind == api.ECall {
			w.call(x)
		}
	}
}

// call executes a function, which may call those before it.
func (w *walker) call(x api.Expr) {
	i := slices.IndexFunc(w.program.Funcs, func(f api.Func) bool { return f.Name == x.Name })
	if i < 0 || i >= w.callers || len(w.program.Funcs[i].Params) != len(x.Kids) {
		w.lost = x.Name
		return
	}
	values, arrays, callers := w.values, w.arrays, w.callers
	w.values, w.arrays, w.callers = map[string]bool{}, nil, i
	for _, name := range w.program.Funcs[i].Params {
		w.values[name] = true
	}
	w.list(w.program.Funcs[i].Body)
	w.values, w.arrays, w.callers = values, arrays, callers
}

// walk executes a kernel once, and returns a name that had no value.
func walk(p api.Program, k api.Kernel, seed int64) string {
	w := &walker{maker: newMaker(seed, 0), program: p, values: map[string]bool{}, arrays: map[string]bool{}, callers: len(p.Funcs), steps: 500}
	for _, x := range k.Params {
		if x.Buffer {
			w.arrays[x.Name] = true
		} else {
			w.values[x.Name] = true
		}
	}
	for _, a := range k.Shared {
		w.arrays[a.Name] = true
	}
	w.list(k.Body)
	return w.lost
}

// TestClosed executes the kernels of sound programs on several ways.
func TestClosed(t *testing.T) { // P4.4
	walks, lost := 0, 0
	valid(t, func(p api.Program) {
		_, e := check.Check(p)
		for _, k := range p.Kernels {
			for seed := range 8 {
				name := walk(p, k, int64(seed))
				if e == api.OK && name != "" {
					t.Fatalf("%q has no value in %q of %v", name, k.Name, p)
				}
				if e == api.OK {
					walks++
				} else if name != "" {
					lost++
				}
			}
		}
	})
	if walks < 3000 || lost < 1000 {
		t.Errorf("only %d walks of sound programs, and %d on which a name was lost", walks, lost)
	}
}
