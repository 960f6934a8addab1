package carry

import (
	"maps"
	"slices"

	"massif/api"
	"massif/mmr"
	"massif/proof"
)

// Flock holds many leaves of one forest, and its peaks.
type Flock struct {
	forest forest
	paths  map[uint64][]api.Hash // of each held leaf the siblings on the way to its peak, from below
}

// NewFlock follows a forest from n leaves with these peaks on.
func NewFlock(w int, n uint64, peaks []api.Hash) (*Flock, api.Errno) {
	if _, e := mmr.Bag(w, n, peaks); e != api.OK {
		return nil, e
	}
	return &Flock{forest: forest{width: w, size: n, peaks: slices.Clone(peaks)}}, api.OK
}

// On hears of an append, makes all proofs ones of the new size, and holds the new leaf, if it is to.
func (f *Flock) On(ev api.Event, hold bool) api.Errno {
	if e := f.forest.refuse(ev); e != api.OK {
		return e
	}
	if hold && f.full() {
		return api.ErrLong
	}
	m := f.forest.grow(ev.Leaf)
	for i, path := range f.paths {
		f.paths[i] = m.lengthen(path)
	}
	if hold {
		f.hold(ev.Size, m.left) // the new leaf has all that it was merged with on its left
	}
	return api.OK
}

// Join holds a leaf by the bytes of its proof, if they lead to the peaks.
func (f *Flock) Join(leaf api.Hash, b []byte) api.Errno {
	p, e := proof.Decode(b)
	if e != api.OK {
		return e
	}
	if p.Size != f.forest.size {
		return api.ErrSize
	}
	if f.holds(p.Index) {
		return api.ErrLive
	}
	peaks, path, _ := climb(f.forest.width, leaf, p) // what Decode has read is not refused
	if !slices.Equal(peaks, f.forest.peaks) {
		return api.ErrRoot
	}
	if f.full() {
		return api.ErrLong
	}
	f.hold(p.Index, path)
	return api.OK
}

// Leave holds the leaf i no more.
func (f *Flock) Leave(i uint64) api.Errno {
	if !f.holds(i) {
		return api.ErrIndex
	}
	delete(f.paths, i)
	return api.OK
}

// Proof is that of the leaf i at Size, if it is held.
func (f *Flock) Proof(i uint64) (api.Proof, api.Errno) {
	path, ok := f.paths[i]
	if !ok {
		return api.Proof{}, api.ErrIndex
	}
	return f.forest.proof(i, path), api.OK
}

// Held are the indices of the leaves that it holds, rising.
func (f *Flock) Held() []uint64 { return slices.Sorted(maps.Keys(f.paths)) }

// Size is how many leaves the forest has.
func (f *Flock) Size() uint64 { return f.forest.size }

// Peaks are those of the forest, from the left.
func (f *Flock) Peaks() []api.Hash { return slices.Clone(f.forest.peaks) }

// Root is the one over all peaks.
func (f *Flock) Root() api.Hash { return f.forest.root() }

func (f *Flock) full() bool { return len(f.paths) >= api.MaxFlock }

func (f *Flock) holds(i uint64) bool {
	_, ok := f.paths[i]
	return ok
}

// hold keeps the path of a leaf: nobody else may have it.
func (f *Flock) hold(i uint64, path []api.Hash) {
	if f.paths == nil {
		f.paths = map[uint64][]api.Hash{}
	}
	f.paths[i] = path
}
