package many

import (
	"massif/api"
	"massif/hash"
	"massif/pos"
)

// step is a node that is worked out from its kids.
type step struct{ l, r, up api.Hash }

// climber works nodes out. Leaves and nodes stand in it from the left; those that were taken are gone.
type climber struct {
	width         int
	leaves, nodes []api.Hash
	heard         func(s step) // hears of each step
}

// climb is the peaks that follow from leaves and a proof that is whole; heard hears of the steps, in an order that hangs
// on the proof's size and indices alone.
func climb(w int, leaves []api.Hash, p api.Many, heard func(s step)) []api.Hash {
	c := climber{w, leaves, p.Nodes, heard}
	index := p.Index
	var peaks []api.Hash
	for _, at := range pos.Peaks(p.Size) {
		mine, others := split(index, at)
		peaks = append(peaks, c.up(at, mine))
		index = others
	}
	return peaks
}

// up is the hash of what stands at p, over these of the leaves.
func (c *climber) up(p uint64, index []uint64) api.Hash {
	if len(index) == 0 {
		return next(&c.nodes)
	}
	left, right, ok := pos.Kids(p)
	if !ok {
		return next(&c.leaves)
	}
	ofLeft, ofRight := split(index, left)
	l := c.up(left, ofLeft)
	r := c.up(right, ofRight)
	s := step{l, r, hash.Node(c.width, l, r)}
	c.heard(s)
	return s.up
}

// next takes the first one of a list.
func next(l *[]api.Hash) api.Hash {
	first := (*l)[0]
	*l = (*l)[1:]
	return first
}
