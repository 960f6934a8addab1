package batch

import (
	"math/bits"
	"slices"

	"massif/api"
	"massif/cut"
	"massif/mmr"
)

// hasher has the parts of a batch hashed: a list of nodes for each of them; false, if the work was cancelled.
type hasher func(parts [][]api.Hash) ([][]api.Hash, bool)

// run appends leaves, if all parts of them are hashed. Their events are begun ahead of the work: whichever way it ends,
// what was not finished is taken back, and only what is finished comes into the keep, all at once.
func (f *Forest) run(leaves []api.Hash, hashed hasher) (outcome int, events []api.Event) {
	n, k := f.keep.Size(), uint64(len(leaves))
	events = begun(n, leaves)
	finished := false
	defer func() {
		if !finished {
			outcome, events = api.None, nil
		}
	}()
	spots := cut.Span(n, n+k)
	lists, ok := hashed(partsOf(leaves, spots))
	if !ok {
		return
	}
	nodes := joined(f.keep.Width(), f.keep.Peaks(), spots, lists)
	tell(events, f.keep.Peaks(), nodes)
	finished = f.keep.Install(nodes, k) == api.OK
	return api.Whole, events
}

// begun are the events of leaves that come behind n others, still without their peaks.
func begun(n uint64, leaves []api.Hash) []api.Event {
	events := make([]api.Event, len(leaves))
	for i, leaf := range leaves {
		events[i] = api.Event{Size: n + uint64(i), Leaf: leaf}
	}
	return events
}

// partsOf are the leaves under each of the spots, which lie over all of them.
func partsOf(leaves []api.Hash, spots []api.Spot) [][]api.Hash {
	parts := make([][]api.Hash, len(spots))
	for i, s := range spots {
		under := 1 << s.Height
		parts[i], leaves = leaves[:under], leaves[under:]
	}
	return parts
}

// joined are all nodes that come behind the peaks, in the order in which appends make them: those of each part, and
// behind them, as long as the last one is a right kid, its parent, whose left kid is the last peak ahead.
func joined(w int, peaks []api.Hash, spots []api.Spot, lists [][]api.Hash) []api.Hash {
	var nodes []api.Hash
	for i, s := range spots {
		nodes = append(nodes, lists[i]...)
		for k := s.Index; k%2 == 1; k /= 2 {
			left := len(peaks) - 1
			nodes = append(nodes, parent(w, peaks[left], nodes[len(nodes)-1]))
			peaks = peaks[:left]
		}
		peaks = append(peaks, nodes[len(nodes)-1])
	}
	return nodes
}

// parent is the hash over two: it comes last of the tree over two leaves.
func parent(w int, left, right api.Hash) api.Hash {
	nodes, _ := mmr.Grow(w, []api.Hash{left, right})
	return nodes[len(nodes)-1]
}

// tell gives each event the peaks ahead of its leaf, those ahead of the first one being handed in. Behind a leaf stand
// in nodes the parents that it makes: each comes in the place of the last two peaks.
func tell(events []api.Event, peaks, nodes []api.Hash) {
	for i := range events {
		events[i].Peaks = slices.Clone(peaks)
		peaks, nodes = append(peaks, nodes[0]), nodes[1:]
		for range bits.TrailingZeros64(events[i].Size + 1) {
			peaks, nodes = append(peaks[:len(peaks)-2], nodes[0]), nodes[1:]
		}
	}
}
