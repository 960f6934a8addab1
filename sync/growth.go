package sync

import (
	"massif/api"
	"massif/hash"
	"massif/mmr"
	"massif/pos"
)

// growth is what comes behind a tree's leaves, apart from the tree: of that it knows no more than the peaks.
type growth struct {
	width int
	size  uint64     // of the tree and what has come
	peaks []api.Hash // of all of that, from the left
	nodes []api.Hash // what has come, in the order in which appends make it
}

// behind is one behind all leaves that the tree has now.
func behind(t *mmr.Tree) growth {
	return growth{width: t.Width(), size: t.Size(), peaks: t.Peaks()}
}

// add makes leaf the next one: as long as what was made last is a right kid, its parent takes the place of the last peak.
func (g *growth) add(leaf api.Hash) {
	p, _ := pos.Leaf(g.size) // an aim that is accepted has no leaf beyond the last one
	h := leaf
	g.nodes = append(g.nodes, h)
	for ; pos.Right(p); p++ {
		last := len(g.peaks) - 1
		h = hash.Node(g.width, g.peaks[last], h)
		g.peaks = g.peaks[:last]
		g.nodes = append(g.nodes, h)
	}
	g.peaks = append(g.peaks, h)
	g.size++
}

// root is the one over all peaks.
func (g *growth) root() api.Hash {
	h, _ := mmr.Bag(g.width, g.size, g.peaks) // peaks are as many as the size has set bits
	return h
}
