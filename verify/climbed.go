package verify

import (
	"massif/api"
	"massif/hash"
	"massif/pos"
)

// climbed is what is known of a forest: what a proof hands in, and what was climbed to from there.
type climbed map[api.Spot]api.Hash

// handed knows the nodes of a proof, which belong to these places; where they are more or fewer, to none.
func handed(places []uint64, nodes []api.Hash) (climbed, api.Errno) {
	if len(nodes) != len(places) {
		return nil, api.ErrCount
	}
	c := make(climbed)
	for k, p := range places {
		s, _ := pos.Spot(p)
		c[s] = nodes[k]
	}
	return c, api.OK
}

// join climbs to a spot whose two kids are known. Kids are found by their spots, so that the left one is hashed first,
// whichever of the two was handed in.
func (c climbed) join(w int, s api.Spot) {
	l := c[api.Spot{Height: s.Height - 1, Index: 2 * s.Index}]
	r := c[api.Spot{Height: s.Height - 1, Index: 2*s.Index + 1}]
	c[s] = hash.Node(w, l, r)
}

// peaks are the hashes of the peaks of n leaves, from the left; all of them must be known.
func (c climbed) peaks(n uint64) []api.Hash {
	places := pos.Peaks(n)
	l := make([]api.Hash, 0, len(places))
	for _, p := range places {
		s, _ := pos.Spot(p)
		l = append(l, c[s])
	}
	return l
}
