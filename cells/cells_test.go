package cells_test

import (
	"math"
	"slices"
	"testing"

	"drawloom/api"
	"drawloom/cells"
)

// at returns an access to a cell.
func at(space, bid, cell, tid, kind int) api.Access {
	return api.Access{Space: space, Block: bid, Cell: cell, Thread: tid, Kind: kind}
}

// store stores a word in a cell.
func store(t *testing.T, c *cells.Cells, a api.Access, word int32) {
	t.Helper()
	x := c.Access(a)
	if x == nil {
		t.Fatalf("%v: no cell", a)
	}
	*x = word
}

// wantWord checks the word of a cell.
func wantWord(t *testing.T, c *cells.Cells, a api.Access, want int32) {
	t.Helper()
	if word, ok := c.Peek(a); word != want || !ok {
		t.Errorf("%v: %d, %v, want %d", a, word, ok, want)
	}
}

func wantMem(t *testing.T, c *cells.Cells, want api.Mem) {
	t.Helper()
	if m := c.Mem(); !slices.EqualFunc(m, want, slices.Equal) {
		t.Errorf("%v, want %v", m, want)
	}
}

func wantRaces(t *testing.T, c *cells.Cells, want ...api.Race) {
	t.Helper()
	if l := c.Races(); !slices.Equal(l, want) {
		t.Errorf("%v, want %v", l, want)
	}
}

var twoArrays = []api.Array{{Name: "s", Size: 2}, {Name: "r", Size: 3}}

// TestWords checks that each space has its own cells, those of a shared array once for each block.
func TestWords(t *testing.T) {
	m := api.Mem{{1, 2}, {}, {3}}
	c := cells.New(m, twoArrays, 2)
	wantMem(t, &c, m)
	store(t, &c, at(0, 1, 1, 0, cells.Store), 10)
	store(t, &c, at(2, 0, 0, 0, cells.Atomic+api.Add), 11)
	store(t, &c, at(-1, 0, 1, 0, cells.Store), 12)
	store(t, &c, at(-2, 1, 1, 0, cells.Store), 13)
	wantMem(t, &c, api.Mem{{1, 10}, {}, {11}})
	for i, x := range []struct {
		space, bid, cell int
		want             int32
	}{{0, 0, 0, 1}, {0, 0, 1, 10}, {2, 1, 0, 11}, {-1, 0, 0, 0}, {-1, 0, 1, 12}, {-1, 1, 1, 0}, {-2, 0, 1, 0}, {-2, 1, 1, 13}, {-2, 1, 2, 0}} {
		wantWord(t, &c, at(x.space, x.bid, x.cell, i, cells.Load), x.want)
	}
	if m[0][1] != 2 || m[2][0] != 3 {
		t.Errorf("the memory has changed: %v", m)
	}
	c.Mem()[0][0] = 99
	wantMem(t, &c, api.Mem{{1, 10}, {}, {11}})
}

// TestOutside checks accesses to cells that there are not.
func TestOutside(t *testing.T) {
	c := cells.New(api.Mem{{1, 2}, {}}, twoArrays, 1)
	for _, a := range []api.Access{at(0, 0, -1, 0, 1), at(0, 0, 2, 0, 1), at(0, 0, math.MaxInt32, 0, 1), at(0, 0, math.MinInt32, 0, 1), at(1, 0, 0, 0, 1), at(-1, 0, 2, 0, 1), at(-2, 0, 3, 0, 1), at(-2, 0, -1, 0, 1)} {
		for tid := range 2 {
			a.Thread = tid
			if word, ok := c.Peek(a); word != 0 || ok || c.Access(a) != nil {
				t.Errorf("%v: %d, %v", a, word, ok)
			}
		}
	}
	wantRaces(t, &c)
}

// TestRaces checks which accesses are reported, and that a look at a cell is none.
func TestRaces(t *testing.T) {
	c := cells.New(api.Mem{{0, 0, 0}}, twoArrays, 2)
	store(t, &c, at(0, 0, 1, 0, cells.Store), 1)
	wantWord(t, &c, at(0, 0, 1, 1, cells.Load), 1)
	wantRaces(t, &c)
	store(t, &c, at(-2, 1, 1, 0, cells.Store), 1)
	c.Access(at(-2, 0, 1, 1, cells.Load)) // another cell
	c.Access(at(-2, 1, 1, 1, cells.Load))
	c.Access(at(0, 0, 1, 1, cells.Load))
	c.Access(at(0, 0, 1, 2, cells.Store)) // The cell has a race already.
	c.Access(at(0, 0, 1, 3, cells.Store))
	for kind := range 4 { // of one thread
		c.Access(at(0, 0, 0, 1, kind))
		c.Access(at(0, 0, 0, 1, kind))
	}
	c.Access(at(0, 1, 2, 0, cells.Atomic+api.Min))
	c.Access(at(0, 1, 2, 1, cells.Atomic+api.Min))
	c.Access(at(0, 1, 2, 2, cells.Atomic+api.Max))
	want := []api.Race{
		{A: at(-2, 1, 1, 0, cells.Store), B: at(-2, 1, 1, 1, cells.Load)},
		{A: at(0, 0, 1, 0, cells.Store), B: at(0, 0, 1, 1, cells.Load)},
		{A: at(0, 1, 2, 0, cells.Atomic+api.Min), B: at(0, 1, 2, 2, cells.Atomic+api.Max)},
	}
	wantRaces(t, &c, want...)
	c.Races()[0] = api.Race{}
	wantRaces(t, &c, want...)
}

// TestPass checks that a barrier orders the accesses of its block, and no others.
func TestPass(t *testing.T) {
	c := cells.New(api.Mem{{0, 0}}, nil, 2)
	c.Access(at(0, 0, 0, 0, cells.Store))
	c.Access(at(0, 1, 1, 0, cells.Store))
	c.Pass(0)
	c.Access(at(0, 0, 0, 1, cells.Store))
	wantRaces(t, &c)
	c.Access(at(0, 1, 1, 1, cells.Store))
	c.Access(at(0, 1, 0, 0, cells.Load))
	wantRaces(t, &c,
		api.Race{A: at(0, 1, 1, 0, cells.Store), B: at(0, 1, 1, 1, cells.Store)},
		api.Race{A: at(0, 0, 0, 0, cells.Store), B: at(0, 1, 0, 0, cells.Load)})
}

// TestClone checks that a copy has the same words, phases, accesses and races, and is independent.
func TestClone(t *testing.T) {
	a := cells.New(api.Mem{{1, 2, 3}}, twoArrays, 2)
	store(t, &a, at(0, 0, 0, 0, cells.Store), 5)
	store(t, &a, at(-1, 1, 0, 0, cells.Store), 6)
	store(t, &a, at(0, 0, 1, 0, cells.Store), 7)
	a.Access(at(0, 0, 1, 1, cells.Load))
	raced := api.Race{A: at(0, 0, 1, 0, cells.Store), B: at(0, 0, 1, 1, cells.Load)}
	a.Pass(0)
	b := a.Clone()
	wantMem(t, &b, api.Mem{{5, 7, 3}})
	wantWord(t, &b, at(-1, 1, 0, 0, cells.Load), 6)
	wantRaces(t, &b, raced)

	store(t, &b, at(0, 0, 0, 1, cells.Store), 50) // ordered, as in a
	store(t, &b, at(-1, 1, 0, 1, cells.Store), 60)
	second := api.Race{A: at(-1, 1, 0, 0, cells.Store), B: at(-1, 1, 0, 1, cells.Store)}
	wantRaces(t, &b, raced, second)
	b.Pass(1)
	wantMem(t, &a, api.Mem{{5, 7, 3}})
	wantWord(t, &a, at(-1, 1, 0, 0, cells.Load), 6)
	wantRaces(t, &a, raced)

	store(t, &a, at(0, 1, 0, 1, cells.Store), 51)
	third := api.Race{A: at(0, 0, 0, 0, cells.Store), B: at(0, 1, 0, 1, cells.Store)}
	wantRaces(t, &a, raced, third) // not with the access of the copy
	store(t, &a, at(-1, 1, 1, 0, cells.Store), 1)
	a.Access(at(-1, 1, 1, 1, cells.Load)) // the same phase in a
	wantRaces(t, &a, raced, third, api.Race{A: at(-1, 1, 1, 0, cells.Store), B: at(-1, 1, 1, 1, cells.Load)})
	wantRaces(t, &b, raced, second)
	wantMem(t, &b, api.Mem{{50, 7, 3}})
}

// TestCloneAccesses checks that accesses to a copy do not take the places of those to the original.
func TestCloneAccesses(t *testing.T) {
	for n := range 8 {
		a := cells.New(api.Mem{{0}}, twoArrays, 8)
		for bid := range n {
			a.Access(at(0, bid, 0, 0, cells.Load))
		}
		b := a.Clone()
		a.Access(at(0, 7, 0, 1, cells.Load))
		b.Access(at(0, 7, 0, 2, cells.Load))
		a.Access(at(0, 7, 0, 2, cells.Store))
		b.Access(at(0, 7, 0, 1, cells.Store))
		firstA, firstB := at(0, 0, 0, 0, cells.Load), at(0, 0, 0, 0, cells.Load)
		if n == 0 {
			firstA, firstB = at(0, 7, 0, 1, cells.Load), at(0, 7, 0, 2, cells.Load)
		}
		wantRaces(t, &a, api.Race{A: firstA, B: at(0, 7, 0, 2, cells.Store)})
		wantRaces(t, &b, api.Race{A: firstB, B: at(0, 7, 0, 1, cells.Store)})
	}
	// accesses of one block, of which only the last ones are in a race with the next one
	for n := range 8 {
		a := cells.New(api.Mem{{0}}, nil, 1)
		for i := range n {
			a.Access(at(0, 0, 0, 0, cells.Atomic+i%3))
			a.Pass(0)
		}
		b := a.Clone()
		a.Access(at(0, 0, 0, 1, cells.Load))
		b.Access(at(0, 0, 0, 2, cells.Load))
		a.Access(at(0, 0, 0, 3, cells.Store))
		b.Access(at(0, 0, 0, 3, cells.Store))
		wantRaces(t, &a, api.Race{A: at(0, 0, 0, 1, cells.Load), B: at(0, 0, 0, 3, cells.Store)})
		wantRaces(t, &b, api.Race{A: at(0, 0, 0, 2, cells.Load), B: at(0, 0, 0, 3, cells.Store)})
	}
}

// TestNone checks cells of nothing.
func TestNone(t *testing.T) {
	var zero cells.Cells
	for _, c := range []cells.Cells{zero, zero.Clone(), cells.New(nil, nil, 1)} {
		wantMem(t, &c, nil)
		wantRaces(t, &c)
	}
}
