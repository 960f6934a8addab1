package mmr

import (
	"math/bits"

	"massif/api"
	"massif/hash"
	"massif/pos"
)

// Bag is the root of n leaves with these peaks.
func Bag(w int, n uint64, peaks []api.Hash) (api.Hash, api.Errno) {
	if n > api.MaxLeaves {
		return api.Hash{}, api.ErrSize
	}
	if len(peaks) != bits.OnesCount64(n) {
		return api.Hash{}, api.ErrCount
	}
	return hash.Root(w, n, folded(w, peaks)), api.OK
}

// folded is all peaks in one hash: the last one is folded first. Of none it is zero.
func folded(w int, peaks []api.Hash) api.Hash {
	if len(peaks) == 0 {
		return api.Hash{}
	}
	last := len(peaks) - 1
	acc := peaks[last]
	for i := last - 1; i >= 0; i-- {
		acc = hash.Fold(w, peaks[i], acc)
	}
	return acc
}

// Grow is the nodes of the perfect tree over leaves, in the order in which they are made.
func Grow(w int, leaves []api.Hash) ([]api.Hash, api.Errno) {
	if len(leaves) > 1<<api.MaxLog || bits.OnesCount(uint(len(leaves))) != 1 {
		return nil, api.ErrCount
	}
	nodes := make([]api.Hash, 0, 2*len(leaves)-1)
	for _, leaf := range leaves {
		nodes = append(nodes, leaf)
		for p := uint64(len(nodes) - 1); pos.Right(p); p++ { // behind a right kid comes its parent
			left, _ := pos.Sibling(p)
			nodes = append(nodes, hash.Node(w, nodes[left], nodes[p]))
		}
	}
	return nodes, api.OK
}
