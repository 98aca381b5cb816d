// Package cells is no layer of its own: it keeps what the layers that define meanings share, the cells of a launch with the races of the accesses to them.
package cells

import (
	"slices"

	"drawloom/api"
)

// What an access does to a cell: api.Access numbers it. An atomic operation is Atomic + its operator.
const (
	Load = iota
	Store
	Atomic
)

// Cells are the cells of a launch: those of its buffers, and of the shared arrays of each block.
type Cells struct {
	buffers [][]cell
	blocks  []block
	races   []api.Race
}

// block is what the threads of a block share. They pass each barrier together, so that all of them are in the same phase.
type block struct {
	phase  int
	arrays [][]cell
}

// New returns the cells of a launch before its first step.
func New(m api.Mem, shared []api.Array, grid int) Cells {
	c := Cells{blocks: make([]block, grid)}
	for _, buffer := range m {
		c.buffers = append(c.buffers, newCells(buffer))
	}
	for bid := range c.blocks {
		for _, a := range shared {
			c.blocks[bid].arrays = append(c.blocks[bid].arrays, make([]cell, a.Size))
		}
	}
	return c
}

// Peek returns the word of the cell of an access that has not been executed yet, and whether there is such a cell.
func (c *Cells) Peek(a api.Access) (int32, bool) {
	x := c.find(a)
	if x == nil {
		return 0, false
	}
	return x.word, true
}

// Access takes note of an access that is executed. It returns the word of its cell, or nil if there is no such cell: then it is no access.
func (c *Cells) Access(b api.Access) *int32 {
	x := c.find(b)
	if x == nil {
		return nil
	}
	if a, found := x.note(api.Event{Access: b, Phase: c.blocks[b.Block].phase}); found {
		c.races = append(c.races, api.Race{A: a, B: b})
	}
	return &x.word
}

// find returns the cell of an access, or nil if it is outside of its array.
func (c *Cells) find(a api.Access) *cell {
	var array []cell
	if a.Space >= 0 {
		array = c.buffers[a.Space]
	} else {
		array = c.blocks[a.Block].arrays[-1-a.Space]
	}
	if a.Cell < 0 || a.Cell >= len(array) {
		return nil
	}
	return &array[a.Cell]
}

// Pass begins the next phase of the threads of a block, which have passed a barrier.
func (c *Cells) Pass(bid int) { c.blocks[bid].phase++ }

// Mem returns the words of the buffers.
func (c *Cells) Mem() api.Mem {
	var m api.Mem
	for _, buffer := range c.buffers {
		m = append(m, words(buffer))
	}
	return m
}

// Races returns the races, in the order in which they were found.
func (c *Cells) Races() []api.Race { return slices.Clone(c.races) }

// Clone returns a copy that is independent of the cells.
func (c *Cells) Clone() Cells {
	made := Cells{blocks: slices.Clone(c.blocks), races: slices.Clone(c.races)}
	for _, buffer := range c.buffers {
		made.buffers = append(made.buffers, cloneCells(buffer))
	}
	for bid := range made.blocks {
		made.blocks[bid].arrays = nil
		for _, array := range c.blocks[bid].arrays {
			made.blocks[bid].arrays = append(made.blocks[bid].arrays, cloneCells(array))
		}
	}
	return made
}
