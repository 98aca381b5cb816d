package cells

import (
	"slices"

	"drawloom/api"
)

// cell is a cell with the accesses to it that may still be in a race with a later one, in their order; none after its race was reported.
type cell struct {
	word  int32
	raced bool
	seen  []api.Event
}

// newCells returns cells with some words.
func newCells(words []int32) []cell {
	cells := make([]cell, len(words))
	for i, word := range words {
		cells[i].word = word
	}
	return cells
}

func words(cells []cell) []int32 {
	l := make([]int32, len(cells))
	for i := range cells {
		l[i] = cells[i].word
	}
	return l
}

func cloneCells(cells []cell) []cell {
	l := slices.Clone(cells)
	for i := range l {
		l[i].seen = slices.Clone(l[i].seen)
	}
	return l
}

// note takes note of an access. It returns the earliest access with which it is in a race, and whether there is one that is to be reported.
func (c *cell) note(e api.Event) (api.Access, bool) {
	if c.raced {
		return api.Access{}, false
	}
	for _, earlier := range c.seen {
		if races(earlier, e) {
			c.raced, c.seen = true, nil
			return earlier.Access, true
		}
	}
	c.keep(e)
	return api.Access{}, false
}

// keep keeps an access that is in no race with those that are kept already.
func (c *cell) keep(e api.Event) {
	if !c.covers(e) {
		c.forget(e)
		c.seen = append(c.seen, e)
	}
}

// covers reports whether each later access with which e will be in a race will also be in one with an access that is kept already: the same one, or one of two other threads, since the later access is of one thread only.
func (c *cell) covers(e api.Event) bool {
	others := 0
	for _, earlier := range c.seen {
		if earlier == e {
			return true
		}
		if alike(earlier, e) && earlier.Phase == e.Phase {
			others++
		}
	}
	return others >= 2
}

// forget drops the accesses like e from phases of its block that are over, but for the first one: they are in races with accesses of other blocks only, and those are in a race with the first one, too.
func (c *cell) forget(e api.Event) {
	first := true
	c.seen = slices.DeleteFunc(c.seen, func(earlier api.Event) bool {
		if !alike(earlier, e) {
			return false
		}
		drop := !first && earlier.Phase != e.Phase
		first = false
		return drop
	})
}

// alike reports whether two accesses to a cell do the same in the same block.
func alike(a, b api.Event) bool {
	return a.Access.Kind == b.Access.Kind && a.Access.Block == b.Access.Block
}

// races reports whether two accesses to a cell are a race.
func races(a, b api.Event) bool {
	x, y := a.Access, b.Access
	if x.Block != y.Block {
		return conflict(x.Kind, y.Kind)
	}
	return x.Thread != y.Thread && a.Phase == b.Phase && conflict(x.Kind, y.Kind)
}

// conflict reports whether accesses of two kinds conflict.
func conflict(a, b int) bool { return a != b || a == Store }
