package mean_test

import (
	"math"
	"reflect"
	"slices"
	"testing"

	"drawloom/api"
	"drawloom/mean"
	"drawloom/syntax"
)

const (
	least    = math.MinInt32
	greatest = math.MaxInt32
)

// program returns the program of a source.
func program(t *testing.T, s string) api.Program {
	t.Helper()
	p, at, e := syntax.Parse(s)
	if e != api.OK {
		t.Fatalf("%q: %d, %d", s, at, e)
	}
	return p
}

// launch returns a launch of the kernel k.
func launch(grid, block int, args ...int32) api.Launch {
	return api.Launch{Kernel: "k", Grid: grid, Block: block, Args: args}
}

// run performs a launch of the kernel k of a source.
func run(t *testing.T, s string, l api.Launch, m api.Mem, turns ...int) api.Run {
	t.Helper()
	r, e := mean.Run(program(t, s), l, m, turns)
	if e != api.OK {
		t.Fatalf("%q: %d", s, e)
	}
	return r
}

// world returns a launch of the kernel k of a source.
func world(t *testing.T, s string, l api.Launch, m api.Mem) *mean.World {
	t.Helper()
	w, e := mean.New(program(t, s), l, m)
	if w == nil || e != api.OK {
		t.Fatalf("%q: %d", s, e)
	}
	return w
}

// equal reports whether two runs are the same.
func equal(a, b api.Run) bool {
	return a.End == b.End && a.Steps == b.Steps && slices.Equal(a.Races, b.Races) && slices.EqualFunc(a.Mem, b.Mem, slices.Equal)
}

// cells returns a buffer of cells that are 0.
func cells(n int) []int32 { return make([]int32, n) }

// wantCells compares the first buffer at the end of launches in one block of one thread, which has 4 cells, with what the chapter requires.
func wantCells(t *testing.T, wants map[string][4]int32) {
	t.Helper()
	for s, want := range wants {
		r := run(t, s, launch(1, 1, 0), api.Mem{{0, 0, 0, 0}})
		if r.End != api.OK || len(r.Races) != 0 || [4]int32(r.Mem[0]) != want {
			t.Errorf("%q: %v, want %d", s, r, want)
		}
	}
}

func TestExamples(t *testing.T) {
	const first = "kernel k(buffer a) { a[tid] = tid * 2; }"
	var races []api.Race
	for i := range 4 {
		a := api.Access{Space: 0, Block: 0, Cell: i, Thread: i, Kind: 1}
		b := a
		b.Block = 1
		races = append(races, api.Race{A: a, B: b})
	}
	for i, x := range []struct {
		source string
		l      api.Launch
		m      api.Mem
		want   api.Run
	}{
		{first, launch(2, 4, 0), api.Mem{{9, 9, 9, 9, 9, 9, 9, 9}}, api.Run{Mem: api.Mem{{0, 2, 4, 6, 9, 9, 9, 9}}, Races: races, Steps: 8}},
		{first, launch(1, 4, 0), api.Mem{{9, 9, 9, 9, 9, 9, 9, 9}}, api.Run{Mem: api.Mem{{0, 2, 4, 6, 9, 9, 9, 9}}, Steps: 4}},
		{"kernel k(buffer a) { collect s = add tid; a[bid * dim + tid] = s; }", launch(2, 4, 0), api.Mem{cells(8)}, api.Run{Mem: api.Mem{{6, 6, 6, 6, 6, 6, 6, 6}}, Steps: 16}},
		{"kernel k() { if tid { barrier; } }", launch(1, 2), nil, api.Run{End: api.ErrStuck, Steps: 3}},
		{"kernel k(buffer a) { atomic add a[0], 1; }", launch(3, 5, 0), api.Mem{{7}}, api.Run{Mem: api.Mem{{22}}, Steps: 15}},
	} {
		if r := run(t, x.source, x.l, x.m); !equal(r, x.want) {
			t.Errorf("%d: %v, want %v", i, r, x.want)
		}
		free, e := mean.Free(program(t, x.source), x.l, x.m)
		if want := x.want.End == api.OK && len(x.want.Races) == 0; free != want || e != api.OK {
			t.Errorf("%d: free %v, %d, want %v", i, free, e, want)
		}
	}
}

// TestStatements checks what each statement does, in one thread.
func TestStatements(t *testing.T) {
	wantCells(t, map[string][4]int32{
		"kernel k(buffer a) { }": {},
		"kernel k(buffer a) { a[1] = 5; a[2] = a[1] + 1; a[1] = 7; }":                                                                                            {0, 7, 6, 0},
		"kernel k(buffer a) { let x = 3; x = x + x; a[0] = x; let y = x; x = 0; a[1] = y; }":                                                                     {6, 6, 0, 0},
		"kernel k(buffer a) { let i = 2; a[i] = i + 40; a[a[2] - 41] = i; }":                                                                                     {0, 2, 42, 0},
		"kernel k(buffer a) { if 1 { a[0] = 1; } a[1] = 2; }":                                                                                                    {1, 2, 0, 0},
		"kernel k(buffer a) { if 0 { a[0] = 1; } a[1] = 2; }":                                                                                                    {0, 2, 0, 0},
		"kernel k(buffer a) { if -5 { a[0] = 1; } else { a[1] = 2; } a[2] = 3; }":                                                                                {1, 0, 3, 0},
		"kernel k(buffer a) { if 0 { a[0] = 1; } else { a[1] = 2; a[2] = 4; } a[3] = 3; }":                                                                       {0, 2, 4, 3},
		"kernel k(buffer a) { if 1 { } else { a[1] = 2; } a[2] = 3; }":                                                                                           {0, 0, 3, 0},
		"kernel k(buffer a) { if 0 { } a[2] = 3; if 1 { } a[3] = 4; if 0 { } }":                                                                                  {0, 0, 3, 4},
		"kernel k(buffer a) { if 1 { if 0 { a[0] = 1; } else { if 2 { a[1] = 1; } } } a[2] = 1; }":                                                               {0, 1, 1, 0},
		"kernel k(buffer a) { while a[0] < 5 { a[0] = a[0] + 2; } a[1] = 1; }":                                                                                   {6, 1, 0, 0},
		"kernel k(buffer a) { while 0 { a[0] = 1; } while 0 { } a[1] = 1; }":                                                                                     {0, 1, 0, 0},
		"kernel k(buffer a) { while 1 { a[0] = a[0] + 1; if a[0] == 3 { break; } a[1] = a[1] + 1; } a[2] = 1; }":                                                 {3, 2, 1, 0},
		"kernel k(buffer a) { while a[0] < 4 { a[0] = a[0] + 1; if a[0] & 1 { continue; } a[1] = a[1] + 1; } a[2] = 1; }":                                        {4, 2, 1, 0},
		"kernel k(buffer a) { while a[0] < 3 { a[0] = a[0] + 1; while 1 { a[1] = a[1] + 1; if a[1] % 2 { continue; } break; a[3] = 9; } a[2] = a[2] + a[1]; } }": {3, 6, 12, 0},
		"kernel k(buffer a) { while 1 { if a[0] > 2 { break; } else { a[0] = a[0] + 1; } } a[1] = 1; }":                                                          {3, 1, 0, 0},
		"kernel k(buffer a) { while a[0] < 2 { while a[1] < 5 { a[1] = a[1] + 1; } a[0] = a[0] + 1; } a[2] = 1; }":                                               {2, 5, 1, 0},
		"kernel k(buffer a) { a[0] = 1; return; a[1] = 1; }":                                                                                                     {1, 0, 0, 0},
		"kernel k(buffer a) { while 1 { a[0] = a[0] + 1; if a[0] == 2 { return; } } a[1] = 1; }":                                                                 {2, 0, 0, 0},
		"kernel k(buffer a) { if 1 { let x = 4; a[0] = x; } else { let x = 5; a[1] = x; } let x = 6; a[2] = x; }":                                                {4, 0, 6, 0},
		"kernel k(buffer a) { let i = 0; while i < 3 { let x = i; x = x + 10; a[i] = x; i = i + 1; } }":                                                          {10, 11, 12, 0},
		"kernel k(buffer a) { barrier; a[0] = 1; barrier; barrier; a[1] = 2; barrier; }":                                                                         {1, 2, 0, 0},
		"kernel k(buffer a) { let i = 0; while i < 3 { collect s = add i + 5; a[i] = s; i = i + 1; } collect s = max i; a[3] = s; }":                             {5, 6, 7, 3},
	})
}

// TestAtomic checks each operator of an SAtomic.
func TestAtomic(t *testing.T) {
	wantCells(t, map[string][4]int32{
		"kernel k(buffer a) { a[1] = 12; atomic add a[1], 10; }":                              {0, 22, 0, 0},
		"kernel k(buffer a) { a[1] = 12; atomic min a[1], 10; atomic min a[2], 3; }":          {0, 10, 0, 0},
		"kernel k(buffer a) { a[1] = 12; atomic max a[1], 10; atomic max a[2], 3; }":          {0, 12, 3, 0},
		"kernel k(buffer a) { a[1] = 12; atomic and a[1], 10; }":                              {0, 8, 0, 0},
		"kernel k(buffer a) { a[1] = 12; atomic or a[1], 10; }":                               {0, 14, 0, 0},
		"kernel k(buffer a) { a[1] = 12; atomic xor a[1], 10; }":                              {0, 6, 0, 0},
		"kernel k(buffer a) { let i = 2; atomic add a[i + 1], i; atomic add a[3], a[3]; }":    {0, 0, 0, 4},
		"kernel k(buffer a) { shared s[2]; atomic or s[1], 5; a[s[0]] = s[1]; }":              {5, 0, 0, 0},
		"kernel k(buffer a) { atomic add a[4], 1; atomic add a[-1], 1; atomic add a[3], 1; }": {0, 0, 0, 1},
	})
}

// TestExpressions checks each kind of expression, in one thread.
func TestExpressions(t *testing.T) {
	wantCells(t, map[string][4]int32{
		"kernel k(buffer a) { a[0] = 17; a[1] = 2147483647; a[2] = 2147483648; }":                 {17, greatest, least, 0},
		"kernel k(buffer a) { a[0] = -7; a[1] = ~7; a[2] = !7; a[3] = !0; }":                      {-7, -8, 0, 1},
		"kernel k(buffer a) { a[0] = 7 - 9; a[1] = 7 / 2; a[2] = -7 % 4; a[3] = 7 / 0; }":         {-2, 3, -3, 0},
		"kernel k(buffer a) { a[0] = 5 && 0; a[1] = 2 && 4; a[2] = 0 || 3; a[3] = 0 || 0; }":      {0, 1, 1, 0},
		"kernel k(buffer a) { a[0] = 1 << 33; a[1] = -8 >> 1; a[2] = -8 >>> 1; a[3] = 2 <: 3; }":  {2, -4, 0x7ffffffc, 1},
		"kernel k(buffer a) { a[0] = min(4, 3); a[1] = max(4, 3); a[2] = 3 > 2; a[3] = 3 >= 4; }": {3, 4, 1, 0},
		"kernel k(buffer a) { a[0] = (1 + 2) * (3 - 4) - -5; a[1] = 10 - 4 - 3; }":                {2, 3, 0, 0},
		"kernel k(buffer a) { a[0] = dim; a[1] = grid; a[2] = tid; a[3] = bid; }":                 {1, 1, 0, 0},
	})
}

// TestOutside checks loads, stores and atomic operations outside of an array.
func TestOutside(t *testing.T) {
	for _, index := range []int32{-1, -4, least, 4, 5, 64, 256, greatest} {
		const s = "kernel k(buffer a, int i) { shared s[4]; a[i] = 7; a[0] = a[0] + a[i] + 1; atomic add a[i], 1; s[i] = 7; atomic or s[i], 7; a[1] = s[i] + s[0] + s[1] + s[2] + s[3]; }"
		r := run(t, s, launch(2, 2, 0, index), api.Mem{{0, 0, 0, 0}})
		if r.End != api.OK || [4]int32(r.Mem[0]) != [4]int32{4, 0, 0, 0} {
			t.Errorf("%d: %v", index, r)
		}
		for _, race := range r.Races {
			if race.A.Cell < 0 || race.A.Cell > 1 || race.A.Space != 0 {
				t.Errorf("%d: %v", index, race)
			}
		}
	}
	if r := run(t, "kernel k(buffer a) { a[0] = a[0]; atomic add a[0], 1; }", launch(1, 2, 0), api.Mem{nil}); !equal(r, api.Run{Mem: api.Mem{nil}, Steps: 4}) {
		t.Errorf("a buffer without cells: %v", r)
	}
}

// TestSpecials checks the special values of all threads, and that the last cells of arrays of the greatest sizes are in them.
func TestSpecials(t *testing.T) {
	const s = "kernel k(buffer t, buffer b, buffer d, buffer g) { shared s[64]; s[63 - tid] = tid; let i = bid * dim + tid; t[i] = s[63 - tid]; b[i] = bid; d[i] = dim; g[i] = grid; }"
	for _, size := range [][2]int{{1, 1}, {3, 5}, {8, 32}, {2, 7}} {
		grid, dim := size[0], size[1]
		r := run(t, s, launch(grid, dim, 3, 1, 0, 2), api.Mem{cells(256), cells(256), cells(256), cells(256)}, 5, 900, -3)
		want := api.Mem{cells(256), cells(256), cells(256), cells(256)}
		for i := range grid * dim {
			want[3][i], want[1][i], want[0][i], want[2][i] = int32(i%dim), int32(i/dim), int32(dim), int32(grid)
		}
		if !equal(r, api.Run{Mem: want, Steps: 6 * grid * dim}) {
			t.Errorf("%v: %v", size, r)
		}
	}
}

// TestParams checks that integer parameters are variables of each thread, that several parameters may denote one buffer, and that buffers that no parameter denotes do not change.
func TestParams(t *testing.T) {
	const s = "kernel k(int n, buffer a, int m, buffer b) { n = n + tid; m = m - n; b[tid] = n * 100 + m; a[tid + 2] = b[tid] + 1; }"
	r := run(t, s, launch(1, 2, 3, 1, 7, 1), api.Mem{{1, 2}, {0, 0, 0, 0, 5}, {3}}, 1, 0, 1, 0, 1, 0)
	if want := (api.Run{Mem: api.Mem{{1, 2}, {304, 403, 305, 404, 5}, {3}}, Steps: 8}); !equal(r, want) {
		t.Errorf("%v, want %v", r, want)
	}
	r = run(t, s, launch(1, 2, -1, 0, least, 2), api.Mem{{0, 0, 0, 0}, {4}, {0, 0}})
	if want := (api.Run{Mem: api.Mem{{0, 0, greatest - 97, least + 1}, {4}, {greatest - 98, least}}, Steps: 8}); !equal(r, want) {
		t.Errorf("%v, want %v", r, want)
	}
}

// TestSteps checks how many steps are counted. (A call of f counts 3 for its let, its return and the last while, and 3 more for each round.)
func TestSteps(t *testing.T) {
	const f = "func f(n) { let s = 0; while n { s = s + n; n = n - 1; } return s; } func g() { } func h(x) { if x { return f(x) + g(); } } "
	for s, want := range map[string]int{
		"kernel k(int n) { }":                                                                            0,
		"kernel k(int n) { n = 1; }":                                                                     1,
		"kernel k(int n) { return; n = 1; }":                                                             1,
		"kernel k(int n) { if 1 { } }":                                                                   1,
		"kernel k(int n) { if 0 { n = 1; } else { n = 2; n = 3; } n = 4; }":                              4,
		"kernel k(int n) { while n { n = n - 1; } }":                                                     7,
		"kernel k(int n) { while n { n = n - 1; continue; } }":                                           10,
		"kernel k(int n) { while n { break; } n = 1; }":                                                  3,
		"kernel k(int n) { barrier; collect s = add 1; barrier; }":                                       3,
		f + "kernel k(int n) { n = f(2); }":                                                              1 + 9,
		f + "kernel k(int n) { n = g() + g(); }":                                                         1,
		f + "kernel k(int n) { n = f(0) + f(1) * f(2); }":                                                1 + 3 + 6 + 9,
		f + "kernel k(int n) { n = f(f(2)); }":                                                           1 + 9 + 12,
		f + "kernel k(int n) { n = h(2); n = h(0); }":                                                    1 + 2 + 9 + 1 + 1,
		f + "kernel k(int n) { if f(1) { n = 1; } while f(0) { } }":                                      1 + 6 + 1 + 1 + 3,
		f + "kernel k(int n) { shared s[8]; s[f(1) + tid] = f(1); atomic add s[f(0) + tid + 1], f(1); }": 1 + 12 + 1 + 9,
		f + "kernel k(int n) { collect s = add f(1); }":                                                  7,
		f + "kernel k(int n) { n = 0 && f(1); n = 1 || f(1); }":                                          14,
	} {
		if r := run(t, s, launch(1, 1, 3), nil); !equal(r, api.Run{Steps: want}) {
			t.Errorf("%q: %v, want %d steps", s, r, want)
		}
		if r := run(t, s, launch(2, 3, 3), nil, 3, 2, 1); !equal(r, api.Run{Steps: 6 * want}) {
			t.Errorf("%q: %v, want %d steps of all threads", s, r, 6*want)
		}
	}
}

// TestCalls checks that functions have their own variables, in each call.
func TestCalls(t *testing.T) {
	wantCells(t, map[string][4]int32{
		"func f(a, b) { a = a - b; let x = a; return x; } kernel k(buffer a) { let x = 9; let b = 2; a[0] = f(x, b); a[1] = x; a[2] = b; a[3] = f(b, x); }":                       {7, 9, 2, -7},
		"func f() { } kernel k(buffer a) { a[0] = 4; a[0] = f(); }":                                                                                                               {0, 0, 0, 0},
		"func f(n) { n = 5; } kernel k(buffer a) { let n = 3; a[0] = f(n) + 1; a[1] = n; }":                                                                                       {1, 3, 0, 0},
		"func f(n) { if n > 2 { return 10; } n = n + 1; if n > 2 { return n; } } kernel k(buffer a) { a[0] = f(3); a[1] = f(2); a[2] = f(1); }":                                   {10, 3, 0, 0},
		"func f(n) { while 1 { if n > 4 { break; } n = n + 1; if n < 3 { continue; } n = n * 2; } return n; } kernel k(buffer a) { a[0] = f(0); a[1] = f(9); }":                   {6, 9, 0, 0},
		"func f(a, b, c) { return a * 100 + b * 10 + c; } func g(a, b) { return f(b, a, f(0, 0, a)) - 1; } kernel k(buffer a) { a[0] = g(1, 2); a[1] = f(g(0, 0), 2, g(3, 4)); }": {210, 352, 0, 0},
		"func f(x) { let y = x + 1; return y; } func g(x) { let y = f(x) + f(x + 1); return y * 10 + f(y); } kernel k(buffer a) { let y = g(1); a[0] = y; a[1] = f(y); }":         {56, 57, 0, 0},
		"func f(n) { while n { return 3; } } kernel k(buffer a) { a[0] = f(1); a[1] = f(0); }":                                                                                    {3, 0, 0, 0},
	})
}

// TestValues checks that a run keeps no argument and that its results are new memory.
func TestValues(t *testing.T) { // R5
	p := program(t, "func f(x) { return x + 1; } kernel k(buffer a, int n) { shared s[2]; a[tid] = f(n); barrier; a[1 - tid] = a[1 - tid] + s[0]; }")
	q := program(t, "func f(x) { return x + 1; } kernel k(buffer a, int n) { shared s[2]; a[tid] = f(n); barrier; a[1 - tid] = a[1 - tid] + s[0]; }")
	l, m, turns := launch(1, 2, 0, 4), api.Mem{{1, 2, 3}}, []int{1, 1}
	w, e := mean.New(p, l, m)
	if e != api.OK {
		t.Fatal(e)
	}
	r, e := mean.Run(p, l, m, turns)
	if e != api.OK || !equal(r, api.Run{Mem: api.Mem{{5, 5, 3}}, Steps: 8}) {
		t.Errorf("%v, %d", r, e)
	}
	if !reflect.DeepEqual(p, q) || !reflect.DeepEqual(l, launch(1, 2, 0, 4)) || !reflect.DeepEqual(m, api.Mem{{1, 2, 3}}) || !slices.Equal(turns, []int{1, 1}) {
		t.Error("arguments have changed")
	}
	r.Mem[0][0] = 9
	l.Args[1], m[0][2] = 80, 90
	p.Funcs[0].Body[0].Exprs[0].Kids[1].Int = 7
	p.Kernels[0].Body[0].Name, p.Kernels[0].Shared[0].Size = "b", 3
	p.Kernels[0].Body[0].Exprs[1].Kids[0].Name = "m"
	for len(w.Ready()) > 0 {
		w.Step(w.Ready()[0])
	}
	if got := w.Mem(); !slices.Equal(got[0], []int32{5, 5, 3}) {
		t.Errorf("arguments were kept: %d", got)
	}
}

// TestOneBuffer checks that buffers of a memory that share their cells are copied apart.
func TestOneBuffer(t *testing.T) {
	buffer := []int32{1, 2}
	r := run(t, "kernel k(buffer a, buffer b) { a[0] = 5; b[1] = a[0] + b[0]; }", launch(1, 1, 0, 1), api.Mem{buffer, buffer})
	if !equal(r, api.Run{Mem: api.Mem{{5, 2}, {1, 6}}, Steps: 2}) || buffer[0] != 1 || buffer[1] != 2 {
		t.Errorf("%v, %d", r, buffer)
	}
}

// TestErrors checks the errors of check.Fits, of which New, Run and Free return the same.
func TestErrors(t *testing.T) {
	sound := program(t, "func f() { } kernel j() { } kernel k(buffer a, int n) { }")
	for i, x := range []struct {
		p    api.Program
		l    api.Launch
		m    api.Mem
		want api.Errno
	}{
		{sound, launch(1, 1, 0, 0), api.Mem{{1}}, api.OK},
		{api.Program{Kernels: []api.Kernel{{Name: "let"}}}, launch(0, 1, 0, 0), nil, api.ErrForm},
		{program(t, "kernel k() { } kernel k() { }"), launch(0, 1), nil, api.ErrTwice},
		{program(t, "kernel k() { x = 1; }"), launch(0, 1), nil, api.ErrName},
		{program(t, "func f(x) { } kernel k() { let x = f(); }"), launch(1, 1), nil, api.ErrArg},
		{program(t, "kernel j() { break; } kernel k() { }"), launch(1, 1), nil, api.ErrPlace},
		{sound, api.Launch{Kernel: "f", Grid: 0}, nil, api.ErrName},
		{sound, api.Launch{Kernel: "", Grid: 1, Block: 1}, nil, api.ErrName},
		{sound, launch(0, 1, 0, 0), api.Mem{{1}}, api.ErrArg},
		{sound, launch(9, 1, 0, 0), api.Mem{{1}}, api.ErrArg},
		{sound, launch(1, 33, 0, 0), api.Mem{{1}}, api.ErrArg},
		{sound, launch(1, 1, 0), api.Mem{{1}}, api.ErrArg},
		{sound, launch(1, 1, 1, 0), api.Mem{{1}}, api.ErrArg},
		{sound, launch(1, 1, 0, 0), api.Mem{cells(257)}, api.ErrArg},
		{sound, launch(1, 1, 0, 0), make(api.Mem, 7), api.ErrArg},
	} {
		w, e := mean.New(x.p, x.l, x.m)
		if e != x.want || (w != nil) != (e == api.OK) {
			t.Errorf("%d: New: %v, %d, want %d", i, w, e, x.want)
		}
		r, e := mean.Run(x.p, x.l, x.m, []int{1})
		if e != x.want || e != api.OK && !equal(r, api.Run{}) {
			t.Errorf("%d: Run: %v, %d, want %d", i, r, e, x.want)
		}
		free, e := mean.Free(x.p, x.l, x.m)
		if e != x.want || free != (e == api.OK) {
			t.Errorf("%d: Free: %v, %d, want %d", i, free, e, x.want)
		}
	}
}

// TestFree checks launches that are not free although some run of them ends well.
func TestFree(t *testing.T) {
	for s, want := range map[string]bool{
		"kernel k(buffer a) { }":                                                          true,
		"kernel k(buffer a) { a[tid] = 1; }":                                              true,
		"kernel k(buffer a) { a[0] = 1; }":                                                false, // a race
		"kernel k(buffer a) { if tid { barrier; } }":                                      false, // stuck
		"kernel k(buffer a) { while 1 { } }":                                              false, // no steps left
		"kernel k(buffer a) { a[0] = 1; if tid { barrier; } }":                            false,
		"kernel k(buffer a) { a[0] = 1; while 1 { } }":                                    false,
		"kernel k(buffer a) { if tid { a[0] = 2; } barrier; a[1] = a[0]; }":               false,
		"kernel k(buffer a) { if tid { a[0] = 2; } barrier; if a[0] == 3 { a[1] = 1; } }": true,
		"kernel k(buffer a) { if tid == a[0] { a[0] = 1; } }":                             false,
	} {
		if free, e := mean.Free(program(t, s), launch(1, 2, 0), api.Mem{{0, 0}}); free != want || e != api.OK {
			t.Errorf("%q: %v, %d, want %v", s, free, e, want)
		}
	}
}
