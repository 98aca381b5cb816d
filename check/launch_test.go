package check_test

import (
	"math"
	"testing"

	"drawloom/api"
	"drawloom/check"
)

// memory returns so many buffers of some cells.
func memory(buffers, cells int) api.Mem {
	m := api.Mem{}
	for range buffers {
		m = append(m, make([]int32, cells))
	}
	return m
}

// launch returns a launch of the kernel k.
func launch(grid, block int, args ...int32) api.Launch {
	return api.Launch{Kernel: "k", Grid: grid, Block: block, Args: args}
}

func TestFits(t *testing.T) {
	const least, greatest = math.MinInt32, math.MaxInt32
	none, words, mixed := "kernel k() { }", "kernel k(int a, int b) { }", "kernel j(buffer a) { } kernel k(buffer a, int b, buffer c) { }"
	for i, x := range []struct {
		source string
		l      api.Launch
		m      api.Mem
		want   api.Errno
	}{
		{none, launch(1, 1), nil, api.OK},
		{none, launch(8, 32), api.Mem{}, api.OK},
		{none, launch(0, 1), nil, api.ErrArg},
		{none, launch(-1, 1), nil, api.ErrArg},
		{none, launch(math.MinInt, 1), nil, api.ErrArg},
		{none, launch(9, 1), nil, api.ErrArg},
		{none, launch(math.MaxInt, 1), nil, api.ErrArg},
		{none, launch(1, 0), nil, api.ErrArg},
		{none, launch(1, -1), nil, api.ErrArg},
		{none, launch(1, math.MinInt), nil, api.ErrArg},
		{none, launch(1, 33), nil, api.ErrArg},
		{none, launch(1, math.MaxInt), nil, api.ErrArg},
		{none, launch(7, 31), nil, api.OK},

		{none, launch(1, 1), memory(6, 256), api.OK},
		{none, launch(1, 1), memory(7, 1), api.ErrArg},
		{none, launch(1, 1), memory(7, 0), api.ErrArg},
		{none, launch(1, 1), memory(1, 257), api.ErrArg},
		{none, launch(1, 1), append(memory(5, 256), make([]int32, 257)), api.ErrArg},
		{none, launch(1, 1), append(memory(1, 257), nil), api.ErrArg},
		{none, launch(1, 1), memory(3, 0), api.OK},

		{none, launch(1, 1, 0), memory(1, 1), api.ErrArg},
		{words, launch(1, 1, 0, 0), nil, api.OK},
		{words, launch(1, 1, least, greatest), nil, api.OK},
		{words, launch(1, 1), nil, api.ErrArg},
		{words, launch(1, 1, 0), nil, api.ErrArg},
		{words, launch(1, 1, 0, 0, 0), nil, api.ErrArg},

		{mixed, launch(1, 1, 0, 9, 0), memory(1, 1), api.OK},
		{mixed, launch(1, 1, 0, -9, 1), memory(2, 0), api.OK},
		{mixed, launch(1, 1, 5, least, 5), memory(6, 1), api.OK},
		{mixed, launch(1, 1, 0, 9, 0), nil, api.ErrArg},
		{mixed, launch(1, 1, 1, 0, 0), memory(1, 1), api.ErrArg},
		{mixed, launch(1, 1, 0, 0, 1), memory(1, 1), api.ErrArg},
		{mixed, launch(1, 1, -1, 0, 0), memory(1, 1), api.ErrArg},
		{mixed, launch(1, 1, 0, 0, -1), memory(1, 1), api.ErrArg},
		{mixed, launch(1, 1, least, 0, 0), memory(1, 1), api.ErrArg},
		{mixed, launch(1, 1, 0, 0, greatest), memory(6, 1), api.ErrArg},
		{mixed, launch(1, 1, 0, 9), memory(1, 1), api.ErrArg},
		{mixed, launch(1, 1, 0, 9, 0, 0), memory(1, 1), api.ErrArg},
	} {
		if e := check.Fits(program(t, x.source), x.l, x.m); e != x.want {
			t.Errorf("case %d: %v over %d buffers: %d, want %d", i, x.l, len(x.m), e, x.want)
		}
	}
}

// TestFitsOrder checks which of several errors is returned: those of Check, then that of the kernel's name, then that of the launch.
func TestFitsOrder(t *testing.T) {
	bad := func(kernel string) api.Launch { return api.Launch{Kernel: kernel, Grid: 9} }
	for i, x := range []struct {
		source, kernel string
		want           api.Errno
	}{
		{"kernel k() { }", "k", api.ErrArg},
		{"kernel k() { }", "l", api.ErrName},
		{"kernel k() { }", "", api.ErrName},
		{"kernel k() { }", "K", api.ErrName},
		{"", "k", api.ErrName},
		{"func k() { }", "k", api.ErrName},
		{"func f() { break; } kernel k() { }", "k", api.ErrPlace},
		{"kernel k() { } kernel k() { }", "k", api.ErrTwice},
		{"kernel k() { } kernel l() { x = 1; }", "k", api.ErrName},
		{"func f() { } kernel k() { } kernel l() { let x = f(1); }", "k", api.ErrArg},
		{"kernel k() { break; }", "l", api.ErrPlace},
	} {
		p := program(t, x.source)
		if e := check.Fits(p, bad(x.kernel), memory(7, 257)); e != x.want {
			t.Errorf("case %d: %d, want %d", i, e, x.want)
		}
	}
	p := program(t, "kernel k(int n) { let x = n(1); }")
	if e := check.Fits(p, launch(1, 1, 0), nil); e != api.ErrName {
		t.Errorf("a program that is not sound: %d", e)
	}
}

// TestFitsKeeps checks that the arguments are not changed.
func TestFitsKeeps(t *testing.T) {
	p, l, m := program(t, "kernel k(buffer a, int n) { a[n] = n; }"), launch(2, 3, 0, 7), api.Mem{{1, 2}, {3}}
	if e := check.Fits(p, l, m); e != api.OK {
		t.Errorf("%d", e)
	}
	if l.Kernel != "k" || l.Grid != 2 || l.Block != 3 || l.Args[0] != 0 || l.Args[1] != 7 || m[0][0] != 1 || m[0][1] != 2 || m[1][0] != 3 {
		t.Errorf("%v, %v", l, m)
	}
}
