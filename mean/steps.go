package mean

import (
	"drawloom/api"
	"drawloom/cells"
	"drawloom/num"
)

// step executes the next statement of a ready thread.
func (w *World) step(t *thread) {
	s := &w.kernel.stmts[t.at]
	v := evaluator{funcs: w.funcs, steps: t.steps, world: w, thread: t}
	words := v.begin(s, t.vars)
	t.steps = v.steps
	if v.spent {
		w.spent = true
		return
	}
	for _, a := range v.loads {
		w.cells.Access(a)
	}
	w.effect(t, s, words)
}

// effect changes what a statement changes, after its expressions were evaluated.
func (w *World) effect(t *thread, s *stmt, words [2]int32) {
	switch s.kind {
	case api.SLet, api.SSet:
		t.vars[s.at] = words[0]
	case api.SPut:
		if word := w.cells.Access(t.access(s.at, words[0], cells.Store)); word != nil {
			*word = words[1]
		}
	case api.SAtomic:
		if word := w.cells.Access(t.access(s.at, words[0], cells.Atomic+s.op)); word != nil {
			*word, _ = num.Binary(s.op, *word, words[1])
		}
	case api.SBarrier, api.SCollect:
		t.word, t.waits = words[0], true
		w.meet(t.bid, t.frame)
		return
	}
	t.at = s.next(words[0])
}

// meet lets the threads of a block go on if all of them wait at the same statement.
func (w *World) meet(bid int, at frame) {
	team := w.team(bid)
	var given []int32
	for _, t := range team {
		if t.frame != at {
			return
		}
		given = append(given, t.word)
	}
	w.cells.Pass(bid)
	w.pass(team, &w.kernel.stmts[at.at], given)
}

// pass lets threads go on after a barrier.
func (w *World) pass(team []thread, s *stmt, given []int32) {
	word, _ := num.Fold(s.op, given)
	for i := range team {
		t := &team[i]
		if s.kind == api.SCollect {
			t.vars[s.at] = word
		}
		t.frame = frame{at: s.no}
	}
}
