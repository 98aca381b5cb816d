package cells

import (
	"math/rand"
	"slices"
	"testing"

	"drawloom/api"
)

// isRace is DOC.md's definition of a race, of two accesses to the same cell.
func isRace(a, b api.Event) bool {
	x, y := a.Access, b.Access
	sameThread := x.Block == y.Block && x.Thread == y.Thread
	ordered := x.Block == y.Block && a.Phase != b.Phase
	bothLoads := x.Kind == 0 && y.Kind == 0
	sameAtomics := x.Kind >= 2 && x.Kind == y.Kind
	return !sameThread && !ordered && !bothLoads && !sameAtomics
}

// TestSeen checks that a cell keeps few accesses, and finds the race that it would find if it kept all of them. The accesses are made: mostly such that there is no race for a long time.
func TestSeen(t *testing.T) {
	late := 0
	for seed := range int64(6000) {
		r := rand.New(rand.NewSource(seed))
		blocks, dim := 1+r.Intn(3), 1+r.Intn(5)
		kinds := [][]int{{Load}, {Atomic + api.Add}, {Load, Store, Atomic + api.Min, Atomic + api.Xor}}[r.Intn(3)]
		phases := make([]int, blocks)
		actor := r.Intn(dim)
		var c cell
		var all []api.Event
		groups := map[[2]int]bool{}
		for k := range 300 {
			bid := r.Intn(blocks)
			if r.Intn(4) == 0 {
				phases[bid]++
				actor = r.Intn(dim)
			}
			e := api.Event{Access: api.Access{Space: 5, Block: bid, Cell: 9, Thread: r.Intn(dim), Kind: kinds[r.Intn(len(kinds))]}, Phase: phases[bid]}
			if len(kinds) > 1 {
				e.Access.Block, e.Access.Thread, e.Phase = 0, actor, phases[0]
			}
			switch r.Intn(300) {
			case 0:
				e.Access.Kind, e.Access.Thread = Store, r.Intn(dim)
			case 1: // another block comes late
				e.Access.Block, e.Access.Kind, e.Phase = blocks, []int{Load, Store, Atomic + api.Min, Atomic + api.Xor}[r.Intn(4)], 0
			}
			at := slices.IndexFunc(all, func(earlier api.Event) bool { return isRace(earlier, e) })
			a, found := c.note(e)
			if found != (at >= 0) || found && a != all[at].Access {
				t.Fatalf("%d: %v, %v, want %d of %v", seed, a, found, at, all)
			}
			if found && k > 20 {
				late++
			}
			if found {
				break
			}
			all = append(all, e)
			groups[[2]int{e.Access.Block, e.Access.Kind}] = true
			if len(c.seen) > 3*len(groups) { // of each block and kind the first one, and two of the last phase
				t.Fatalf("%d: %d accesses are kept: %v", seed, len(c.seen), c.seen)
			}
		}
	}
	if late < 1000 {
		t.Errorf("only %d late races", late)
	}
}
