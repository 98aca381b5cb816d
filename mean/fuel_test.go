package mean_test

import (
	"testing"

	"drawloom/api"
	"drawloom/mean"
)

// spend is a function with the value 0; a call of it counts n steps, if n is at least 2.
const spend = "func spend(n) { if n % 2 { n = n; } while n > 3 { n = n - 2; } } func twice(n) { return spend(n) + spend(n); } "

func TestSpend(t *testing.T) {
	for n := range int32(60) {
		if r := run(t, spend+"kernel k(int n) { let x = spend(n + 2); }", launch(1, 1, n), nil); r.End != api.OK || r.Steps != int(n)+3 {
			t.Errorf("%d: %v", n, r)
		}
	}
}

// TestLimit checks that a run may take exactly MaxSteps steps of a thread, and that one more ends it, without an effect of the statement with this step.
func TestLimit(t *testing.T) {
	for i, x := range []struct {
		s      string // what the kernel does; at the limit, another step belongs to its last statement
		own    int    // its steps without those of spend
		before [2]int32
		after  [2]int32
	}{
		{"a[0] = 1; a[1] = 2 + spend(n);", 2, [2]int32{1, 0}, [2]int32{1, 2}},
		{"a[0] = 1; a[1 + spend(n)] = 2;", 2, [2]int32{1, 0}, [2]int32{1, 2}},
		{"a[1] = spend(n); a[1] = 2;", 2, [2]int32{0, 0}, [2]int32{0, 2}},
		{"atomic add a[1], 2 + spend(n);", 1, [2]int32{0, 0}, [2]int32{0, 2}},
		{"atomic add a[1 + spend(n)], 2;", 1, [2]int32{0, 0}, [2]int32{0, 2}},
		{"let x = 7; a[0] = x; x = spend(n);", 3, [2]int32{7, 0}, [2]int32{7, 0}},
		{"let x = spend(n); a[0] = 3;", 2, [2]int32{0, 0}, [2]int32{3, 0}},
		{"a[0] = 5; if spend(n) { }", 2, [2]int32{5, 0}, [2]int32{5, 0}},
		{"if spend(n) { } else { a[1] = 3; }", 2, [2]int32{0, 0}, [2]int32{0, 3}},
		{"if spend(n) == 0 { a[1] = 3; }", 2, [2]int32{0, 0}, [2]int32{0, 3}},
		{"while spend(n) { }", 1, [2]int32{0, 0}, [2]int32{0, 0}},
		{"while a[0] == 0 { a[0] = 4; } a[1] = spend(n) + 6;", 4, [2]int32{4, 0}, [2]int32{4, 6}},
		{"while spend(n) == 0 { a[0] = 4; return; }", 3, [2]int32{4, 0}, [2]int32{4, 0}},
		{"while spend(n) == 0 { a[0] = 4; break; }", 3, [2]int32{4, 0}, [2]int32{4, 0}},
		{"a[0] = spend(n) + 1; barrier;", 2, [2]int32{1, 0}, [2]int32{1, 0}},
		{"barrier; a[0] = spend(n) + 1;", 2, [2]int32{0, 0}, [2]int32{1, 0}},
		{"a[0] = 3; collect s = add spend(n);", 2, [2]int32{3, 0}, [2]int32{3, 0}},
		{"collect s = add spend(n) + 8; a[0] = s;", 2, [2]int32{0, 0}, [2]int32{8, 0}},
		{"a[0] = 3; a[1] = twice(9) + spend(n);", 2 + 1 + 18, [2]int32{3, 0}, [2]int32{3, 0}},
		{"a[0] = 3; a[1] = spend(n) + twice(9);", 2 + 1 + 18, [2]int32{3, 0}, [2]int32{3, 0}},
		{"a[0] = 3; a[a[0] - 2] = 4 + spend(spend(9) + n) * spend(7) + a[0];", 2 + 9 + 7, [2]int32{3, 0}, [2]int32{3, 7}},
	} {
		source := spend + "kernel k(buffer a, int n) { " + x.s + " }"
		most := api.MaxSteps - x.own
		for _, n := range []int{2, 3, 1000, most - 1, most} {
			r := run(t, source, launch(1, 1, 0, int32(n)), api.Mem{{0, 0}})
			if !equal(r, api.Run{Mem: api.Mem{x.after[:]}, Steps: n + x.own}) {
				t.Errorf("%d, %d: %v", i, n, r)
			}
		}
		r := run(t, source, launch(1, 1, 0, int32(most+1)), api.Mem{{0, 0}})
		if !equal(r, api.Run{End: api.ErrFuel, Mem: api.Mem{x.before[:]}, Steps: api.MaxSteps}) {
			t.Errorf("%d: %v", i, r)
		}
	}
}

// TestEndless checks runs of threads that never end.
func TestEndless(t *testing.T) {
	for s, want := range map[string]int32{
		"while 1 { }":                                            0,
		"while 1 { a[0] = a[0] + 1; }":                           1000,
		"while 1 { a[0] = a[0] + 1; continue; }":                 667,
		"while 1 { a[0] = a[0] + 1; barrier; }":                  667,
		"while 1 { collect s = add 1; a[0] = a[0] + s; }":        666,
		"while 1 { while 1 { a[0] = a[0] + 1; break; } }":        500,
		"if 1 { while 1 { if 1 { atomic add a[0], 1; } } }":      666,
		"while 1 { a[0] = a[0] + 1; let x = f(0) + f(1); }":      400,
		"a[0] = 7; let x = g(1); a[0] = 8;":                      7,
		"a[0] = 7; if 0 && g(1) { } a[0] = 8;":                   7,
		"a[0] = 7; while a[0] * h(3) * h(h(g(2))) { } a[0] = 8;": 7,
	} {
		s = "func f(x) { if x { } } func g(x) { while x { } } func h(x) { } kernel k(buffer a) { " + s + " }"
		if r := run(t, s, launch(1, 1, 0), api.Mem{{0}}); !equal(r, api.Run{End: api.ErrFuel, Mem: api.Mem{{want}}, Steps: api.MaxSteps}) {
			t.Errorf("%q: %v, want %d", s, r, want)
		}
	}
}

// TestEach checks that each thread has steps of its own.
func TestEach(t *testing.T) {
	const s = spend + "kernel k(buffer a, int n) { let x = spend(n); a[bid * dim + tid] = 1; }"
	for _, turns := range [][]int{nil, {5, 4, 3, 2, 1, 0}, {1, 1, 1, 0}} {
		if r := run(t, s, launch(2, 3, 0, 1998), api.Mem{cells(6)}, turns...); !equal(r, api.Run{Mem: api.Mem{{1, 1, 1, 1, 1, 1}}, Steps: 6 * api.MaxSteps}) {
			t.Errorf("%v", r)
		}
	}
	// the first thread that has no step left ends the run; the steps of the others were counted
	r := run(t, s, launch(2, 3, 0, 1999), api.Mem{cells(6)}, 5, 4, 2, 4, 0, 0, 0)
	if !equal(r, api.Run{End: api.ErrFuel, Mem: api.Mem{cells(6)}, Steps: 3 * api.MaxSteps}) {
		t.Errorf("%v", r)
	}
	r = run(t, spend+"kernel k(buffer a, int n) { if bid == 1 { let x = spend(n); } a[bid * dim + tid] = 1; }", launch(2, 3, 0, 1998), api.Mem{cells(6)})
	if !equal(r, api.Run{End: api.ErrFuel, Mem: api.Mem{{1, 1, 1, 0, 0, 0}}, Steps: 6 + api.MaxSteps}) {
		t.Errorf("%v", r)
	}
}

// TestFuelWorld checks what a world tells when a thread has no step left: a step that ends the run is OK.
func TestFuelWorld(t *testing.T) {
	w := world(t, spend+"kernel k(buffer a) { shared s[1]; if tid == 1 { collect c = add 1; } else { a[0] = 1; s[0] = spend(2500); } }", launch(1, 3, 0), api.Mem{{0}})
	do(t, w, 1, 1, 0, 0)
	mem := api.Mem{{1}}
	wantState(t, w, state{ready: []int{0, 2}, run: api.Run{Mem: mem, Steps: 4}})
	do(t, w, 0)
	wantState(t, w, state{done: true, end: api.ErrFuel, run: api.Run{Mem: mem, Steps: 2 + api.MaxSteps}})
}

// TestFuelCollect checks that a thread without a step left does not wait: the run does not end as one that is stuck or that went on.
func TestFuelCollect(t *testing.T) {
	w := world(t, spend+"kernel k(buffer a) { collect c = add 1 + spend(tid * 2500); a[tid] = c; }", launch(1, 2, 0), api.Mem{{0, 0}})
	do(t, w, 0)
	wantState(t, w, state{ready: []int{1}, run: api.Run{Mem: api.Mem{{0, 0}}, Steps: 1 + 2}})
	do(t, w, 1)
	wantState(t, w, state{done: true, end: api.ErrFuel, run: api.Run{Mem: api.Mem{{0, 0}}, Steps: 3 + api.MaxSteps}})
}

// TestFuelRaces checks that the loads of a statement that has no effect are no accesses, and those of the last one that has an effect are.
func TestFuelRaces(t *testing.T) {
	for _, s := range []string{
		"let x = a[0] + spend(n);", "let x = spend(n) + a[0];", "n = a[0] + spend(n);", "a[a[0] + 2] = spend(n);", "a[2] = a[0] + spend(n);",
		"a[a[0] + 2 + spend(n)] = 1;", "a[spend(n)] = 1;", "a[0] = spend(n);", "if a[0] + spend(n) { }", "while a[0] * spend(n) { }",
		"atomic add a[a[0] + 2], spend(n);", "atomic add a[2 + spend(n)], a[0];", "atomic add a[0], spend(n);", "collect c = add a[0] + spend(n);",
	} {
		s = spend + "kernel k(buffer a, int n) { if tid { " + s + " } else { a[0] = 1; } }"
		for n, races := range map[int32]int{1998: 1, 1999: 0} {
			r := run(t, s, launch(1, 2, 0, n), api.Mem{{0, 0, 0}})
			if len(r.Races) != races || (r.End == api.ErrFuel) != (races == 0) || r.Steps != 2+api.MaxSteps || r.Mem[0][0] != 1 && races == 0 {
				t.Errorf("%q, %d: %v", s, n, r)
			}
		}
	}
}

func TestCall(t *testing.T) {
	p := program(t, spend+`
		func zero() { }
		func sub(a, b) { return a - b; }
		func fact(n) { let r = 1; while n { r = r * n; n = n - 1; } return r; }
		func part(n) { if n > 2 { return n; } n = 5; }
		func six(a, b, c, d, e, f) { return sub(a, b) * fact(c) + sub(d, e) / f; }
		func all() { return 2147483648 - 1; }
		kernel k() { }`)
	for i, x := range []struct {
		name string
		args []int32
		word int32
		want api.Errno
	}{
		{"zero", nil, 0, api.OK},
		{"zero", []int32{}, 0, api.OK},
		{"zero", []int32{0}, 0, api.ErrArg},
		{"sub", []int32{3, 5}, -2, api.OK},
		{"sub", []int32{least, 1}, greatest, api.OK},
		{"sub", []int32{3}, 0, api.ErrArg},
		{"sub", []int32{3, 4, 5}, 0, api.ErrArg},
		{"sub", nil, 0, api.ErrArg},
		{"fact", []int32{5}, 120, api.OK},
		{"fact", []int32{-1}, 0, api.ErrFuel},
		{"part", []int32{3}, 3, api.OK},
		{"part", []int32{2}, 0, api.OK},
		{"six", []int32{9, 2, 3, 50, 8, 4}, 52, api.OK},
		{"six", []int32{9, 2, -3, 50, 8, 4}, 0, api.ErrFuel},
		{"all", nil, greatest, api.OK},
		{"spend", []int32{1999}, 0, api.OK},
		{"spend", []int32{2000}, 0, api.OK},
		{"spend", []int32{2001}, 0, api.ErrFuel},
		{"spend", []int32{greatest}, 0, api.ErrFuel},
		{"twice", []int32{999}, 0, api.OK},
		{"twice", []int32{1000}, 0, api.ErrFuel}, // 2001 steps
		{"fact", []int32{665}, 0, api.OK},        // 1998 steps
		{"fact", []int32{666}, 0, api.ErrFuel},   // 2001 steps
		{"k", nil, 0, api.ErrName},
		{"k", []int32{1}, 0, api.ErrName},
		{"f", nil, 0, api.ErrName},
		{"", nil, 0, api.ErrName},
	} {
		args := append([]int32(nil), x.args...)
		word, e := mean.Call(p, x.name, args)
		if word != x.word || e != x.want {
			t.Errorf("%d: %d, %d, want %d, %d", i, word, e, x.word, x.want)
		}
		for j := range args {
			if args[j] != x.args[j] {
				t.Errorf("%d: the arguments have become %d", i, args)
			}
		}
	}
}

// TestCallErrors checks the errors of check.Func.
func TestCallErrors(t *testing.T) {
	for i, x := range []struct {
		p    api.Program
		want api.Errno
	}{
		{api.Program{}, api.ErrName},
		{api.Program{Funcs: []api.Func{{Name: "f", Params: []string{"if"}}}}, api.ErrForm},
		{program(t, "func f() { } func f() { }"), api.ErrTwice},
		{program(t, "func f() { x = 1; }"), api.ErrName},
		{program(t, "func f() { } kernel k() { x = f(); }"), api.ErrName},
		{program(t, "func g() { } func f() { return g(1); }"), api.ErrArg},
		{program(t, "func f() { return; }"), api.ErrPlace},
		{program(t, "func f() { return 1; } kernel k() { return 1; }"), api.ErrPlace},
		{program(t, "kernel f() { }"), api.ErrName},
		{program(t, "func f(x) { }"), api.ErrArg},
	} {
		if word, e := mean.Call(x.p, "f", nil); word != 0 || e != x.want {
			t.Errorf("%d: %d, %d, want %d", i, word, e, x.want)
		}
	}
}
