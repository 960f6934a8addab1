package keep

import (
	"massif/api"
	"massif/mmr"
	"massif/pos"
)

// From is a keep of n leaves of which just these nodes live, with these pins; it looks at all that can be looked at. The
// last answer is where in places something is wrong.
func From(w, log int, n uint64, places []uint64, nodes []api.Hash, pins map[uint64]int) (*Keep, api.Errno, int) {
	t, e := mmr.Bare(w, log, n)
	if e != api.OK {
		return nil, e, 0
	}
	if len(nodes) != len(places) {
		return nil, api.ErrCount, 0
	}
	k := &Keep{tree: *t, log: log}
	if e, at := k.revive(places, nodes); e != api.OK {
		return nil, e, at
	}
	if !k.hasPeaks() {
		return nil, api.ErrPruned, 0
	}
	if e, at := k.check(places); e != api.OK {
		return nil, e, at
	}
	if !k.takePins(pins) {
		return nil, api.ErrPin, 0
	}
	return k, api.OK, 0
}

// revive lets nodes live at rising places, up to the first that is wrong.
func (k *Keep) revive(places []uint64, nodes []api.Hash) (api.Errno, int) {
	s := k.tree.Store()
	for at, p := range places {
		if at > 0 && p <= places[at-1] {
			return api.ErrOrder, at
		}
		if e := s.Back(p, nodes[at]); e != api.OK { // what rises does not live yet: it is no place
			return e, at
		}
	}
	return api.OK, 0
}

// hasPeaks tells whether all peaks live.
func (k *Keep) hasPeaks() bool {
	for _, p := range pos.Peaks(k.Size()) {
		if !k.tree.Store().Live(p) {
			return false
		}
	}
	return true
}

// check finds the first of places that lives beside its kids and is not what they make.
func (k *Keep) check(places []uint64) (api.Errno, int) {
	for at, p := range places {
		made, ok := k.made(p)
		if !ok {
			continue
		}
		if h, _ := k.Node(p); h != made {
			return api.ErrNode, at
		}
	}
	return api.OK, 0
}

// made is the hash that its kids make of the node at p, if both of them live.
func (k *Keep) made(p uint64) (api.Hash, bool) {
	left, right, ok := pos.Kids(p)
	if !ok {
		return api.Hash{}, false
	}
	l, e := k.Node(left)
	if e != api.OK {
		return api.Hash{}, false
	}
	r, e := k.Node(right)
	if e != api.OK {
		return api.Hash{}, false
	}
	// The parent comes last of the tree over two leaves.
	grown, _ := mmr.Grow(k.Width(), []api.Hash{l, r})
	return grown[len(grown)-1], true
}

// takePins gives leaves their pins, if all of them may have so many.
func (k *Keep) takePins(pins map[uint64]int) bool {
	own := make(map[uint64]int, len(pins))
	for i, count := range pins {
		if count < 1 || count > maxPins {
			return false
		}
		if _, e := k.Prove(i); e != api.OK {
			return false
		}
		own[i] = count
	}
	k.pins = own
	return true
}
