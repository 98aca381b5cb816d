package mean

import (
	"slices"

	"drawloom/api"
)

// frame is where a thread stands: before a statement, or waiting at it. Threads wait at the same statement if their frames are equal.
type frame struct {
	at    int
	waits bool
}

// ready reports whether a thread with this frame neither has ended nor waits.
func (f frame) ready() bool { return f.at != over && !f.waits }

// thread is a thread; word is what it contributes while it waits at an SCollect.
type thread struct {
	frame
	bid, tid int
	vars     []int32
	steps    int
	word     int32
}

func (t thread) clone() thread {
	t.vars = slices.Clone(t.vars)
	return t
}

// access returns an access of the thread.
func (t *thread) access(space int, index int32, kind int) api.Access {
	return api.Access{Space: space, Block: t.bid, Cell: int(index), Thread: t.tid, Kind: kind}
}
