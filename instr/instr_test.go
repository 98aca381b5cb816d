package instr_test

import (
	"math"
	"slices"
	"testing"

	"drawloom/api"
	"drawloom/instr"
)

// kinds are all kinds of instructions, with the registers that chapter 6 gives them.
var kinds = [api.IKinds]string{
	api.IConst:   "D",
	api.ICopy:    "DA",
	api.IUnary:   "DA",
	api.IBinary:  "DAB",
	api.ISpecial: "D",
	api.IParam:   "D",
	api.ILoad:    "DA",
	api.IStore:   "AB",
	api.IAtomic:  "AB",
	api.IBarrier: "",
	api.ICollect: "DA",
	api.IPhi:     "D*",
}

// full is an instruction of a kind, with different registers wherever there may be some.
func full(kind int) api.Instr {
	return api.Instr{Kind: kind, Op: 3, D: 10, A: 20, B: 30, Imm: 4, Args: []int{50, 40, 50}}
}

func TestOf(t *testing.T) {
	for kind, letters := range kinds {
		has := func(letter byte) bool { return slices.Contains([]byte(letters), letter) }
		want := instr.Registers{D: has('D'), A: has('A'), B: has('B'), Args: has('*')}
		if got := instr.Of(kind); got != want {
			t.Errorf("%d: %v, want %v", kind, got, want)
		}
	}
	for _, kind := range []int{-1, api.IKinds, math.MinInt, math.MaxInt} {
		if got := instr.Of(kind); got != (instr.Registers{}) {
			t.Errorf("%d: %v", kind, got)
		}
	}
}

// usesOf returns the registers that a full instruction uses.
func usesOf(letters string) []int {
	var used []int
	for _, letter := range letters {
		used = append(used, map[rune][]int{'A': {20}, 'B': {30}, '*': {50, 40, 50}}[letter]...)
	}
	return used
}

func TestUses(t *testing.T) {
	for kind, letters := range kinds {
		if got := instr.Uses(full(kind)); !slices.Equal(got, usesOf(letters)) {
			t.Errorf("%d: %d", kind, got)
		}
	}
	if got := instr.Uses(full(api.IKinds)); len(got) > 0 {
		t.Errorf("%d", got)
	}
}

func TestRenamed(t *testing.T) {
	for kind, letters := range kinds {
		x := full(kind)
		var asked []int
		got := instr.Renamed(x, func(r int) int {
			asked = append(asked, r)
			return r + len(asked)
		})
		want := api.Instr{Kind: kind, Op: 3, D: 10, A: 20, B: 30, Imm: 4}
		switch letters {
		case "DA":
			want.A = 21
		case "DAB", "AB":
			want.A, want.B = 21, 32
		case "D*":
			want.Args = []int{51, 42, 53}
		}
		if !slices.Equal(got.Args, want.Args) || !slices.Equal(asked, usesOf(letters)) || !slices.Equal(x.Args, []int{50, 40, 50}) {
			t.Errorf("%d: %v, asked for %d, from %v", kind, got, asked, x)
		}
		got.Args, want.Args = nil, nil
		if got.Kind != want.Kind || got.Op != want.Op || got.D != want.D || got.A != want.A || got.B != want.B || got.Imm != want.Imm {
			t.Errorf("%d: %v, want %v", kind, got, want)
		}
	}
}

// TestApart checks that results are new memory.
func TestApart(t *testing.T) {
	same := func(r int) int { return r }
	for _, kind := range []int{api.IPhi, api.ICopy} {
		x := full(kind)
		x.Args = x.Args[:2:3]
		_ = append(instr.Renamed(x, same).Args, 7)
		for i := range instr.Renamed(x, same).Args {
			instr.Renamed(x, same).Args[i] = 7
		}
		for i := range instr.Uses(x) {
			instr.Uses(x)[i] = 7
		}
		_ = append(instr.Uses(x), 7)
		if !slices.Equal(x.Args[:3], []int{50, 40, 50}) {
			t.Errorf("%d: %d", kind, x.Args[:3])
		}
	}
}

func TestPhis(t *testing.T) {
	phi, other := full(api.IPhi), full(api.ICopy)
	for i, x := range []struct {
		l    []api.Instr
		want int
	}{
		{nil, 0},
		{[]api.Instr{other}, 0},
		{[]api.Instr{phi}, 1},
		{[]api.Instr{phi, phi, phi}, 3},
		{[]api.Instr{phi, other}, 1},
		{[]api.Instr{phi, phi, other, other}, 2},
		{[]api.Instr{other, phi}, 0},
		{[]api.Instr{phi, other, phi, phi}, 1},
	} {
		if got := instr.Phis(x.l); got != x.want {
			t.Errorf("%d: %d", i, got)
		}
	}
}
