package mean

import (
	"math/rand"
	"slices"
	"testing"

	"drawloom/api"
)

// TestSeen checks that a cell keeps few accesses, and finds the race that it would find if it kept all of them. The accesses are made: mostly such that there is no race for a long time.
func TestSeen(t *testing.T) {
	for seed := range int64(4000) {
		r := rand.New(rand.NewSource(seed))
		blocks, dim := 1+r.Intn(3), 1+r.Intn(5)
		kinds := [][]int{{load}, {atomic + api.Add}, {load, store, atomic + api.Min, atomic + api.Xor}}[r.Intn(3)]
		phases := make([]int, blocks)
		actor := r.Intn(dim)
		var c cell
		var all []api.Event
		for range 300 {
			bid := r.Intn(blocks)
			if r.Intn(4) == 0 {
				phases[bid]++
				actor = r.Intn(dim)
			}
			e := api.Event{Access: api.Access{Space: 5, Block: bid, Cell: 9, Thread: r.Intn(dim), Kind: kinds[r.Intn(len(kinds))]}, Phase: phases[bid]}
			if len(kinds) > 1 {
				e.Access.Block, e.Access.Thread, e.Phase = 0, actor, phases[0]
			}
			if r.Intn(200) == 0 {
				e.Access.Kind, e.Access.Thread = store, r.Intn(dim)
			}
			at := slices.IndexFunc(all, func(earlier api.Event) bool { return races(earlier, e) })
			a, found := c.note(e)
			if found != (at >= 0) || found && a != all[at].Access {
				t.Fatalf("%d: %v, %v, want %d of %v", seed, a, found, at, all)
			}
			if found {
				break
			}
			all = append(all, e)
			if len(c.seen) > 3*blocks*(len(kinds)+1) { // of each block and kind the first one, and two of this phase
				t.Fatalf("%d: %d accesses are kept: %v", seed, len(c.seen), c.seen)
			}
		}
	}
}
