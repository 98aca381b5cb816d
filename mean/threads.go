package mean

import "slices"

// frame is where a thread stands: before a statement, or waiting at it. Threads wait at the same statement if their frames are equal.
type frame struct {
	at    int
	waits bool
}

// ready reports whether a thread with this frame neither has ended nor waits.
func (f frame) ready() bool { return f.at != over && !f.waits }

// thread is a thread; word is what it contributes while it waits at an SCollect.
type thread struct {
	frame
	bid, tid int
	vars     []int32
	steps    int
	word     int32
}

func (t thread) clone() thread {
	t.vars = slices.Clone(t.vars)
	return t
}

// block is what the threads of a block share. They pass each barrier together, so that all of them are in the same phase.
type block struct {
	phase  int
	arrays [][]cell
}

func (b block) clone() block {
	b.arrays = copied(b.arrays, cloneCells)
	return b
}
