package mean

import (
	"drawloom/api"
	"drawloom/num"
)

// step executes the next statement of a ready thread.
func (w *World) step(t *thread) {
	s := &w.kernel.stmts[t.at]
	v := evaluator{funcs: w.funcs, steps: t.steps, world: w, thread: t}
	words := v.begin(s, t.vars)
	t.steps = v.steps
	if v.spent {
		w.spent = true
		return
	}
	for _, p := range v.loads {
		w.access(t, p, load)
	}
	w.effect(t, s, words)
}

// effect changes what a statement changes, after its expressions were evaluated.
func (w *World) effect(t *thread, s *stmt, words [2]int32) {
	switch s.kind {
	case api.SLet, api.SSet:
		t.vars[s.at] = words[0]
	case api.SPut:
		if c := w.access(t, place{s.at, words[0]}, store); c != nil {
			c.word = words[1]
		}
	case api.SAtomic:
		if c := w.access(t, place{s.at, words[0]}, atomic+s.op); c != nil {
			c.word, _ = num.Binary(s.op, c.word, words[1])
		}
	case api.SBarrier, api.SCollect:
		t.word, t.waits = words[0], true
		w.meet(t.bid, t.frame)
		return
	}
	t.at = s.next(words[0])
}

// access takes note of an access, and returns its cell; it is none, of no cell, if it is outside of its array.
func (w *World) access(t *thread, p place, kind int) *cell {
	c := w.cell(t, p)
	if c == nil {
		return nil
	}
	b := api.Access{Space: p.space, Block: t.bid, Cell: int(p.index), Thread: t.tid, Kind: kind}
	if a, found := c.note(api.Event{Access: b, Phase: w.blocks[t.bid].phase}); found {
		w.races = append(w.races, api.Race{A: a, B: b})
	}
	return c
}

// meet lets the threads of a block go on if all of them wait at the same statement.
func (w *World) meet(bid int, at frame) {
	team := w.team(bid)
	var given []int32
	for _, t := range team {
		if t.frame != at {
			return
		}
		given = append(given, t.word)
	}
	w.blocks[bid].phase++
	w.pass(team, &w.kernel.stmts[at.at], given)
}

// pass lets threads go on after a barrier.
func (w *World) pass(team []thread, s *stmt, given []int32) {
	word, _ := num.Fold(s.op, given)
	for i := range team {
		t := &team[i]
		if s.kind == api.SCollect {
			t.vars[s.at] = word
		}
		t.frame = frame{at: s.no}
	}
}
