package flow_test

import (
	"slices"
	"strconv"
	"strings"
	"testing"

	"drawloom/api"
	"drawloom/flow"
	"drawloom/syntax"
)

// lowered returns a launch of the kernel k of a source.
func lowered(t *testing.T, source string, l api.Launch, m api.Mem) written {
	t.Helper()
	x := written{source: source, p: program(t, source), l: l, m: m}
	x.f = lower(t, x.p)
	wantForm(t, x.p, x.f)
	x.run(t)
	return x
}

// TestKernels checks the memory at the end of free launches.
func TestKernels(t *testing.T) { // P6.1, P6.2
	one := launch(1, 1, 0, 5)
	four := launch(1, 4, 0, 5)
	for i, x := range []struct {
		l    api.Launch
		body string // of a kernel with the buffer a of 6 cells and the integer n, which is 5
		want []int32
	}{
		{one, "", []int32{9, 9, 9, 9, 9, 9}},
		{four, "a[tid] = bid * 1000 + dim * 100 + grid * 10 + tid;", []int32{410, 411, 412, 413, 9, 9}},
		{launch(3, 2, 0, 5), "a[bid * dim + tid] = bid * 1000 + dim * 100 + grid * 10 + tid;", []int32{230, 231, 1230, 1231, 2230, 2231}},
		{one, "a[0] = 2147483648; a[1] = 2147483647; a[2] = -n; a[3] = ~n; a[4] = !n; a[5] = !a[4];", []int32{least, greatest, -5, -6, 0, 1}},
		{one, "a[0] = n - 7; a[1] = 7 - n; a[2] = n / 2; a[3] = 2 / n; a[4] = min(n, 7); a[5] = max(n, 7);", []int32{-2, 2, 2, 0, 5, 7}},
		{one, "a[0] = n < 6; a[1] = n > 6; a[2] = n && 0; a[3] = 0 || n; a[4] = n >= 5; a[5] = n << 33;", []int32{1, 0, 0, 1, 1, 10}},
		{one, "a[6] = 1; a[-1] = 2; a[0] = a[6] + a[-1] + a[2147483648] + a[5]; atomic add a[6], 1;", []int32{9, 9, 9, 9, 9, 9}},
		// a copy of a variable is another variable
		{one, "let x = n; n = 6; let y = n; y = y + x; a[0] = x; a[1] = n; a[2] = y;", []int32{5, 6, 11, 9, 9, 9}},
		{one, "let x = 1; let y = 2; let z = x; x = y; y = z; a[0] = x; a[1] = y;", []int32{2, 1, 9, 9, 9, 9}},
		{one, "let x = 3; x = x - (x - 1) * x; a[0] = x; x = x; a[1] = -x;", []int32{-3, 3, 9, 9, 9, 9}},
		{one, "let x = 3; x = a[x] - x; a[x] = x; a[x - 1] = a[x] + x;", []int32{9, 9, 9, 9, 9, 6}}, // There is no a[6].
		{one, "a[a[0] - 8] = a[0] + 1; a[0] = a[1];", []int32{10, 10, 9, 9, 9, 9}},
		// variables of lists next to each other, and of rounds of a loop
		{one, "if n { let x = 1; a[0] = x; } else { let x = 2; a[1] = x; } let x = 3; a[2] = x; while x < 5 { let y = x * 10; a[x] = y; y = 0; x = x + 1; }", []int32{1, 9, 3, 30, 40, 9}},
		{one, "let i = 0; while i < 4 { let x = i; x = x + n; a[i] = x; i = i + 1; }", []int32{5, 6, 7, 8, 9, 9}},
		// branches
		{four, "if tid { a[tid] = 1; }", []int32{9, 1, 1, 1, 9, 9}},
		{four, "if tid { } else { a[tid] = 1; }", []int32{1, 9, 9, 9, 9, 9}},
		{four, "if tid < 2 { if tid { a[tid] = 1; } else { a[tid] = 2; } } else { if tid == 3 { a[tid] = 3; } } atomic add a[4], 1;", []int32{2, 1, 9, 3, 13, 9}},
		{four, "if tid { } if -tid { } else { } if !tid { } else { a[tid] = tid; }", []int32{9, 1, 2, 3, 9, 9}},
		{four, "if tid < 2 { if tid { return; } a[tid] = 1; } else { return; } a[4] = 3;", []int32{1, 9, 9, 9, 3, 9}},
		{four, "if tid { return; } else { return; } a[tid] = 1;", []int32{9, 9, 9, 9, 9, 9}},
		{one, "return; a[0] = 1;", []int32{9, 9, 9, 9, 9, 9}},
		{one, "a[0] = 1; return;", []int32{1, 9, 9, 9, 9, 9}},
		// loops
		{four, "let i = 0; while i < tid { i = i + 1; } a[tid] = i;", []int32{0, 1, 2, 3, 9, 9}},
		{one, "while 0 { a[0] = 1; } while 1 { a[1] = 1; break; } while n { n = 0; a[2] = 1; continue; a[3] = 1; }", []int32{9, 1, 1, 9, 9, 9}},
		{one, "let i = 0; while i < 6 { i = i + 1; if i == 3 { continue; } if i == 5 { break; } a[i - 1] = i; } a[5] = i;", []int32{1, 2, 9, 4, 9, 5}},
		{one, "let i = 0; while i < 3 { let j = 0; while 1 { if j > i { break; } a[i + j] = 10 * i + j; j = j + 1; if j == 3 { continue; } } i = i + 1; }", []int32{0, 10, 20, 21, 22, 9}},
		{one, "let i = 0; while 1 { i = i + 1; while 1 { i = i + 1; break; } if i > 5 { break; } else { continue; } a[0] = 1; } a[1] = i;", []int32{9, 6, 9, 9, 9, 9}},
		{one, "while 1 { while 1 { if n { a[0] = 1; return; } break; } }", []int32{1, 9, 9, 9, 9, 9}},
		{one, "let i = 0; while i < 2 { i = i + 1; while 1 { break; } while 0 { } if i { continue; } else { break; } } a[0] = i;", []int32{2, 9, 9, 9, 9, 9}},
		{one, "while n > 0 { while n > 0 { n = n - 1; if n == 2 { break; } } a[n] = n; n = n - 1; }", []int32{0, 9, 2, 9, 9, 9}},
		// atomic operations
		{four, "atomic add a[0], tid; atomic min a[1], tid; atomic max a[2], tid * 10; atomic and a[3], 12; atomic or a[4], 1 << tid; atomic xor a[5], 1 << tid;", []int32{15, 0, 30, 8, 15, 6}},
		// barriers and collects
		{four, "a[tid] = tid; barrier; let x = a[3 - tid]; barrier; a[tid] = x;", []int32{3, 2, 1, 0, 9, 9}},
		{four, "collect s = add tid; a[tid] = s; collect m = min s + tid; collect x = max tid * m; if tid == 0 { a[4] = m; a[5] = x; }", []int32{6, 6, 6, 6, 6, 18}},
		{four, "collect x = and ~tid; collect y = or 1 << tid; collect z = xor tid; a[tid] = x * 1000 + y * 10 + z;", []int32{-3850, -3850, -3850, -3850, 9, 9}},
		{four, "let i = 0; while i < 3 { collect s = add i; i = i + 1; if tid == 0 { a[i] = s; } barrier; }", []int32{9, 0, 4, 8, 9, 9}},
		{four, "let i = 0; while i < 3 { i = i + 1; if i == 2 { barrier; continue; } collect s = max tid * i; a[tid] = s; }", []int32{9, 9, 9, 9, 9, 9}},
		{launch(2, 2, 0, 5), "if bid { collect s = add 1; a[tid] = s; } else { collect s = max 7 + tid; a[2 + tid] = s; barrier; a[4 + tid] = 0; }", []int32{2, 2, 8, 8, 0, 0}},
		// shared arrays
		{four, "t[tid] = tid * tid; barrier; a[tid] = t[3 - tid] + u[tid];", []int32{9, 4, 1, 0, 9, 9}},
		{launch(2, 2, 0, 5), "u[1 - tid] = bid; t[tid] = 100; barrier; a[bid * 2 + tid] = u[tid] + t[1 - tid];", []int32{100, 100, 101, 101, 9, 9}},
		// functions
		{one, "a[0] = nothing(); a[1] = nothing() + 1; let x = 4; x = nothing(); a[2] = x;", []int32{0, 1, 0, 9, 9, 9}},
		{one, "a[0] = half(7); a[1] = half(half(9)); a[2] = half(n) - half(n + 1);", []int32{3, 2, -1, 9, 9, 9}},
		{one, "let x = 7; a[0] = down(x, n); a[1] = x; a[2] = n; a[3] = down(n, x);", []int32{2, 7, 5, -2, 9, 9}},
		{one, "let y = 7; y = down(y, down(y, n)) + y; a[0] = y;", []int32{12, 9, 9, 9, 9, 9}},
		{one, "a[0] = down(down(9, 2), down(7, 3)); a[1] = down(1, down(2, down(3, 4)));", []int32{3, -2, 9, 9, 9, 9}},
		{one, "a[0] = sign(-4); a[1] = sign(0); a[2] = sign(8); a[3] = sign(sign(-2) - sign(2));", []int32{-1, 0, 1, -1, 9, 9}},
		{one, "a[0] = root(0); a[1] = root(15); a[2] = root(16); a[3] = root(17); a[4] = root(-1);", []int32{0, 3, 4, 4, -1, 9}},
		{one, "let s = 0; let i = 0; while i < half(n) + 1 { s = s + root(i * i); i = i + sign(n); } a[half(2)] = s;", []int32{9, 3, 9, 9, 9, 9}},
		{one, "if sign(n) { a[0] = 1; } if sign(0) { a[1] = 1; } else { a[2] = 1; } atomic add a[half(6)], half(6);", []int32{1, 9, 1, 12, 9, 9}},
		{four, "collect s = add half(tid * 2); a[tid] = down(s, tid);", []int32{6, 5, 4, 3, 9, 9}},
		{one, "a[0] = six(1, 2, 3, 4, 5, 6); a[1] = six(n, n, n, n, n, n); a[2] = swap(3, 4);", []int32{123456, 555555, 43, 9, 9, 9}},
		{one, "let f = 3; let half = 8; a[0] = half(f) + half;", []int32{9, 9, 9, 9, 9, 9}},
	} {
		source := `func nothing() { }
			func half(x) { return x / 2; }
			func down(x, y) { x = x - y; y = 100; return x; return y; }
			func sign(x) { if x < 0 { return -1; } else { if x { return 1; } } }
			func root(x) { let i = 0; while 1 { if x < 0 { return x; } let next = i + 1; if next * next > x { break; } i = next; continue; } return i; }
			func six(a, b, c, d, e, f) { return ((((a * 10 + b) * 10 + c) * 10 + d) * 10 + e) * 10 + f; }
			func swap(a, b) { let c = a; a = b; b = c; return a * 10 + b; }
			kernel k(buffer a, int n) { shared t[4]; shared u[4]; ` + x.body + " }"
		y := lowered(t, source, x.l, api.Mem{{9, 9, 9, 9, 9, 9}})
		for _, turns := range [][]int{nil, {3, 2, 1, 0, 3, 2, 1, 0, 3, 2, 1, 0, 3, 2, 1, 0, 3, 2, 1, 0, 3, 2, 1, 0}, {-1, -1, -1, -1, -1, -1, -1, -1, -1, -1, -1, -1}} {
			r := runWritten(t, y, turns...)
			if !isFree(r) || !sameMem(r.Mem, api.Mem{x.want}) || !sameMem(y.want.Mem, r.Mem) {
				t.Errorf("%d: %s by %d: %v, want %d; chapter 5: %v", i, x.body, turns, r, x.want, y.want)
			}
		}
	}
}

// TestAliases checks that parameters may denote the same buffer.
func TestAliases(t *testing.T) {
	x := lowered(t, "kernel k(buffer a, int n, buffer b) { a[0] = n; b[1] = a[0] + b[0]; a[2] = b[1]; }", launch(1, 1, 1, 5, 1), api.Mem{{0}, {0, 0, 0}})
	if r := runWritten(t, x); !isFree(r) || !sameMem(r.Mem, api.Mem{{0}, {5, 10, 10}}) {
		t.Errorf("%v", r)
	}
	x.l.Args[2] = 0
	if r := runWritten(t, x); !isFree(r) || !sameMem(r.Mem, api.Mem{{0}, {5, 0, 0}}) {
		t.Errorf("%v", r)
	}
}

// TestEndings runs kernels that get stuck, have races, or never end.
func TestEndings(t *testing.T) { // P6.3, P6.4
	for i, x := range []struct {
		body  string
		block int
		end   api.Errno
		races int
	}{
		{"if tid { barrier; }", 2, api.ErrStuck, 0},
		{"if tid { barrier; } else { barrier; }", 2, api.ErrStuck, 0},
		{"if tid { collect s = add 1; } else { collect s = add 1; }", 2, api.ErrStuck, 0},
		{"if tid { return; barrier; } barrier;", 2, api.ErrStuck, 0},
		{"let i = 0; while i <= tid { i = i + 1; barrier; }", 2, api.ErrStuck, 0},
		{"while tid { barrier; break; } collect s = add 2; a[tid] = s;", 3, api.ErrStuck, 0},
		{"barrier; barrier; if tid == 2 { return; } barrier;", 3, api.ErrStuck, 0},
		{"let i = 0; while i < 2 { i = i + 1; if tid { continue; } barrier; }", 2, api.ErrStuck, 0},
		{"if tid { barrier; } barrier;", 1, api.OK, 0},
		{"a[0] = tid;", 2, api.OK, 1},
		{"a[0] = tid; if tid { a[1] = 1; } else { barrier; a[1] = 2; }", 1, api.OK, 0},
		{"a[tid / 2] = tid;", 4, api.OK, 2},
		{"atomic add a[0], 1; atomic min a[0], 1;", 2, api.OK, 1},
		{"atomic add a[0], 1; if tid { a[0] = 1; }", 2, api.OK, 1},
		{"t[0] = 1; barrier; t[1] = 2;", 2, api.OK, 2},
		{"t[0] = 1;", 2, api.OK, 1},
		{"let x = a[tid] + a[0];", 2, api.OK, 0},
		{"while 1 { }", 1, api.ErrFuel, 0},
		{"while 1 { barrier; }", 2, api.ErrFuel, 0},
		{"while 1 { while 1 { break; } continue; }", 1, api.ErrFuel, 0},
	} {
		y := lowered(t, "kernel k(buffer a) { shared t[4]; "+x.body+" }", launch(1, x.block, 0), api.Mem{{0, 0, 0}})
		if y.want.End != x.end || len(y.want.Races) != x.races {
			t.Errorf("%d: %s: chapter 5: %v", i, x.body, y.want)
		}
		for _, turns := range [][]int{nil, {1, 1, 1, 1, 1, 1, 1, 1, 1}, {0, 1, 2, 3, 0, 1, 2, 3, 0, 1, 2, 3}} {
			if r := runWritten(t, y, turns...); r.End != x.end || len(r.Races) != x.races {
				t.Errorf("%d: %s: %v, want %d and %d races", i, x.body, r, x.end, x.races)
			}
		}
	}
}

// TestNumbers checks the numbers of barriers and collects, some of which are never executed.
func TestNumbers(t *testing.T) {
	for i, x := range []struct {
		body string
		must []int32 // numbers that have to occur
	}{
		{"barrier; collect s = add 1; barrier;", []int32{0, 1, 2}},
		{"if tid { barrier; } else { collect s = add 1; } barrier;", []int32{0, 1, 2}},
		{"if tid { } else { collect s = add 1; } barrier;", []int32{0, 1}},
		{"if tid { return; barrier; } barrier;", []int32{1}},
		{"if tid { return; if bid { barrier; } else { collect s = min 1; while s { barrier; } } } else { barrier; } collect s = max 2;", []int32{3, 4}},
		{"while tid { break; barrier; } collect s = add 1;", []int32{1}},
		{"while tid { if bid { continue; barrier; } else { collect s = add 1; break; barrier; } barrier; } barrier;", []int32{1, 4}},
		{"while tid { while bid { barrier; } barrier; } while grid { barrier; break; } barrier;", []int32{0, 1, 2, 3}},
		{"if tid { if bid { return; } else { return; } barrier; } collect s = xor 5;", []int32{1}},
	} {
		y := lowered(t, "kernel k() { "+x.body+" }", launch(1, 1), nil)
		var numbers []int32
		for _, n := range y.f.Nodes {
			for _, i := range n.Instrs {
				if i.Kind == api.IBarrier || i.Kind == api.ICollect {
					numbers = append(numbers, i.Imm)
				}
			}
		}
		for _, number := range x.must {
			if !slices.Contains(numbers, number) {
				t.Errorf("%d: %s: %d, but not %d", i, x.body, numbers, number)
			}
		}
	}
}

// TestLowerErrors checks that the errors are those of check.Kernel, in its order.
func TestLowerErrors(t *testing.T) {
	const good = "func f(x) { return x; } kernel j(int n) { } kernel k(buffer a) { a[0] = f(1); }"
	bad := program(t, good)
	bad.Kernels[1].Body[0].Op = 1
	for i, x := range []struct {
		p    api.Program
		name string
		want api.Errno
	}{
		{program(t, good), "k", api.OK},
		{program(t, good), "j", api.OK},
		{program(t, good), "f", api.ErrName},
		{program(t, good), "a", api.ErrName},
		{program(t, good), "", api.ErrName},
		{api.Program{}, "k", api.ErrName},
		{bad, "j", api.ErrForm},
		{bad, "", api.ErrForm},
		{program(t, good+" kernel m() { x = 1; }"), "k", api.ErrName},
		{program(t, good+" kernel m() { break; }"), "", api.ErrPlace},
		{program(t, good+" kernel m(int k, buffer k) { }"), "k", api.ErrTwice},
		{program(t, good+" kernel m() { let y = f(); }"), "x", api.ErrArg},
		{program(t, doubling(40)), "x", api.ErrName},
		{program(t, doubling(40)+" kernel m() { break; }"), "k", api.ErrPlace},
	} {
		f, e := flow.Lower(x.p, x.name)
		if e != x.want || e != api.OK && !zero(f) {
			t.Errorf("%d: %v, %d, want %d", i, f, e, x.want)
		}
	}
}

// doubling returns a program with so many functions, each of which calls the one before it twice.
func doubling(n int) string {
	var b strings.Builder
	b.WriteString("func f0(x) { return x + 1; } ")
	for i := range n {
		b.WriteString("func f" + strconv.Itoa(i+1) + "(x) { return f" + strconv.Itoa(i) + "(f" + strconv.Itoa(i) + "(x)); } ")
	}
	return b.String() + "kernel k(buffer a) { a[0] = f" + strconv.Itoa(n) + "(a[0]); }"
}

// TestDoubling checks kernels with more and more calls, and that too many calls take no time.
func TestDoubling(t *testing.T) {
	for n := range 70 {
		f, e := flow.Lower(program(t, doubling(n)), "k")
		if e == api.ErrSize {
			if n < 5 || !zero(f) { // about 10 parts for each of 2^n calls
				t.Errorf("%d: %v, %d", n, f, e)
			}
			continue
		}
		if e != api.OK || !flow.Valid(f) || n > 15 {
			t.Fatalf("%d: %v, %d", n, f, e)
		}
		if r := run(t, f, launch(1, 1, 0), api.Mem{{5}}); !isFree(r) || r.Mem[0][0] != 5+1<<n {
			t.Errorf("%d: %v", n, r)
		}
	}
	// calls that no instruction seems to need
	empty := "func f0() { } "
	for i := range 60 {
		empty += "func f" + strconv.Itoa(i+1) + "() { if f" + strconv.Itoa(i) + "() { } if f" + strconv.Itoa(i) + "() { } } "
	}
	p := program(t, empty+"kernel k() { while f60() { } }")
	if f, e := flow.Lower(p, "k"); e != api.ErrSize && !(e == api.OK && flow.Valid(f)) {
		t.Errorf("%v, %d", f, e)
	}
	dead := program(t, empty+"kernel k() { return; while f60() { } }")
	if f, e := flow.Lower(dead, "k"); e != api.ErrSize && !(e == api.OK && flow.Valid(f)) {
		t.Errorf("%v, %d", f, e)
	}
}

// TestSmall checks that no kernel of at most 300 parts is too large, whatever its parts are.
func TestSmall(t *testing.T) {
	const funcs = "func none() { } func same(x) { return x; } func loop(x) { while x { x = 0; } } func many(a, b, c, d, e, f) { } "
	for i, x := range []struct {
		repeat string
		parts  int
	}{
		{"if n { } ", 2},
		{"if n { } else { n = n; } ", 4},
		{"if n { return; } else { return; } ", 4},
		{"if n { return; } ", 3},
		{"while n { } ", 2},
		{"while n { break; } ", 3},
		{"while n { while n { } } ", 4},
		{"if none() { } ", 2},
		{"while none() { } ", 2},
		{"n = n; ", 2},
		{"n = none(); ", 2},
		{"n = same(n); ", 5},
		{"n = loop(n); ", 7},
		{"n = none() + none() + none() + none(); ", 8},
		{"n = many(n, n, n, n, n, n); ", 8},
		{"n = many(none(), none(), none(), none(), none(), none()); ", 8},
		{"n = same(same(same(n))); ", 11},
		{"barrier; ", 1},
		{"let x = n; ", 2},
		{"a[n] = n; ", 3},
		{"atomic add a[n], n; ", 3},
		{"a[0] = a[0]; ", 4},
	} {
		repeats := 300 / x.parts
		var b strings.Builder
		for i := range repeats {
			b.WriteString(strings.ReplaceAll(x.repeat, "let x", "let x"+strconv.Itoa(i)))
		}
		p, _, e := syntax.Parse(funcs + "kernel k(int n, buffer a, int i, int j, int l, int m) { " + b.String() + "}")
		if e == api.ErrSize { // of the text
			t.Errorf("%d: %d", i, e)
			continue
		}
		if parts := inlinedParts(p); parts > 300 || parts < 290 {
			t.Errorf("%d: %d parts", i, parts)
		}
		f, e := flow.Lower(p, "k")
		if e != api.OK || !flow.Valid(f) {
			t.Errorf("%d: %s: %d", i, x.repeat, e)
		}
	}
}

// TestGreatestKernels checks kernels with as many parts as there may be, which are executed as often as may be: their flow graphs take not too many steps.
func TestGreatestKernels(t *testing.T) { // P6.1
	for i, x := range []struct {
		source string // SUM stands for a sum of many terms
		term   string
		least  int // of steps by chapter 5
	}{
		{"kernel k(buffer a) { a[0] = SUM; }", "1", 1},
		{"func f() { } kernel k(buffer a) { a[0] = SUM; }", "f()", 1},
		{"kernel k(buffer a) { let i = 0; while i < 998 { i = SUM + i + 1; } a[0] = i; }", "0", 1999},
		{"func f() { } kernel k(buffer a) { let i = 0; while i < 998 { i = SUM + i + 1; } a[0] = i; }", "f()", 1999},
		{"func f(a, b, c, d, e, g) { } kernel k(buffer a) { let i = 0; while i < 998 { i = SUM + i + 1; } a[0] = i; }", "f(0, i, 0, i, 0, 0)", 1999},
		{"func f() { } kernel k(buffer a) { let i = 0; while SUM + i < 998 { i = i + 1; } a[0] = i; }", "f()", 1999},
		{"func f() { } kernel k(buffer a) { while SUM + a[0] < 998 { a[0] = a[0] + 1; } }", "f()", 1983},
		{"func f(x) { return x; } kernel k(buffer a) { let i = 0; while i < 19 { i = SUM + i + 1; } a[0] = i; }", "f(0)", 1000},
		{"func f(x) { let s = SUM; return s; } kernel k(buffer a) { let i = 0; while i < 160 { i = f(0) + f(i) + f(1) + f(2) + f(i) + i + 1; } a[0] = i; }", "0", 1900},
	} {
		y, ok := longest(t, x.source, x.term)
		if !ok || !isFree(y.want) || y.want.Steps < x.least {
			t.Errorf("%d: %s: %v, %v", i, y.source, ok, y.want)
			continue
		}
		if r := runWritten(t, y); !isFree(r) || !sameMem(r.Mem, y.want.Mem) {
			t.Errorf("%d: %s: %v, want %v", i, y.source, r, y.want)
		}
	}
}

// longest returns a launch of a source with as many terms in a sum as there may be.
func longest(t *testing.T, source, term string) (written, bool) {
	t.Helper()
	for n := 200; n > 0; n-- {
		y := written{source: strings.ReplaceAll(source, "SUM", sum(term, n)), l: launch(1, 1, 0), m: api.Mem{{7}}}
		var e api.Errno
		if y.p, _, e = syntax.Parse(y.source); e != api.OK {
			continue
		}
		if y.f, e = flow.Lower(y.p, "k"); e != api.OK {
			continue
		}
		y.run(t)
		if y.want.End == api.OK {
			return y, true
		}
	}
	return written{}, false
}

// sum returns a sum of so many terms, with brackets such that it is not deep.
func sum(term string, n int) string {
	if n == 1 {
		return term
	}
	return "(" + sum(term, n/2) + " + " + sum(term, n-n/2) + ")"
}

// TestLowerMemory checks that Lower changes no argument, and that its result shares no memory with it.
func TestLowerMemory(t *testing.T) {
	const source = "func f(x) { return x; } kernel k(buffer a, int n) { shared t[3]; if n { t[0] = f(n); } a[0] = t[0]; }"
	p, want := program(t, source), program(t, source)
	f := lower(t, p)
	if a, _ := syntax.Text(p); a == "" || !sameProgram(p, want) {
		t.Errorf("%v has become %v", want, p)
	}
	first := copyFlow(f)
	p.Kernels[0].Params[0].Name, p.Kernels[0].Shared[0].Name = "b", "u"
	p.Funcs[0].Body = nil
	if !sameFlow(f, first) {
		t.Errorf("%v has become %v", first, f)
	}
	again, _ := flow.Lower(want, "k")
	again.Params[0].Name, again.Shared[0].Size = "x", 7
	for i := range again.Nodes {
		again.Nodes[i].Instrs = append(again.Nodes[i].Instrs, api.Instr{})
		again.Nodes[i].Instrs[0] = api.Instr{}
	}
	if third, e := flow.Lower(want, "k"); e != api.OK || !sameFlow(third, first) {
		t.Errorf("%v has become %v", first, third)
	}
}

func sameProgram(a, b api.Program) bool {
	x, e := syntax.Text(a)
	y, e2 := syntax.Text(b)
	return e == api.OK && e2 == api.OK && x == y
}
