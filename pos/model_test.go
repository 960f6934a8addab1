package pos_test

import (
	"slices"

	"massif/api"
	"massif/pos"
)

const (
	most = uint64(api.MaxLeaves)
	size = uint64(1)<<63 - 1 // the places of the forest of most leaves
	far  = ^uint64(0)
)

// forest is made leaf by leaf, as the document's words have it.
type forest struct {
	spots []api.Spot
	at    map[api.Spot]uint64
	sizes []uint64 // how many nodes there were with each number of leaves
}

func grow(n uint64) *forest {
	f := &forest{at: map[api.Spot]uint64{}, sizes: []uint64{0}}
	for i := range n {
		s := api.Spot{Index: i}
		f.add(s)
		for s.Index%2 == 1 {
			s = above(s)
			f.add(s)
		}
		f.sizes = append(f.sizes, uint64(len(f.spots)))
	}
	return f
}

func (f *forest) add(s api.Spot) {
	f.at[s] = uint64(len(f.spots))
	f.spots = append(f.spots, s)
}

func above(s api.Spot) api.Spot { return api.Spot{Height: s.Height + 1, Index: s.Index / 2} }

func mate(s api.Spot) api.Spot {
	if s.Index%2 == 1 {
		return api.Spot{Height: s.Height, Index: s.Index - 1}
	}
	return api.Spot{Height: s.Height, Index: s.Index + 1}
}

// peaks are the nodes of the first n leaves that have no parent among them.
func (f *forest) peaks(n uint64) []uint64 {
	var l []uint64
	for p := range f.sizes[n] {
		if !f.has(above(f.spots[p]), n) {
			l = append(l, p)
		}
	}
	return l
}

func (f *forest) has(s api.Spot, n uint64) bool {
	p, ok := f.at[s]
	return ok && p < f.sizes[n]
}

// path is the siblings on the way up, and the place of the peak where it ends.
func (f *forest) path(i, n uint64) ([]uint64, uint64) {
	var l []uint64
	s := api.Spot{Index: i}
	for ; f.has(above(s), n); s = above(s) {
		l = append(l, f.at[mate(s)])
	}
	return l, f.at[s]
}

// down is where a spot stands, found from the peak of all: a node's right kid is made just ahead of it, and its left
// kid ahead of all that is under the right one.
func down(s api.Spot) uint64 {
	p := size - 1
	for h := 62; h > int(s.Height); h-- {
		p--
		if s.Index>>(h-1-int(s.Height))%2 == 0 {
			p -= uint64(1)<<h - 1
		}
	}
	return p
}

// spots are those at the edges of each height, and some between.
func spots() []api.Spot {
	var l []api.Spot
	for h := range 63 {
		row := most >> h
		for _, k := range edges() {
			for _, k := range []uint64{k % row, row - 1 - k%row} {
				l = append(l, api.Spot{Height: uint8(h), Index: k})
			}
		}
	}
	return l
}

// edges are the powers of two, their neighbours, and some numbers between.
func edges() []uint64 {
	l := []uint64{0, 5, 11, 300, 0x0123456789abcdef, 0x2aaaaaaaaaaaaaaa, 0x1555555555555555, 0x3ffffffffffffff5}
	for b := range 64 {
		x := uint64(1) << b
		l = append(l, x-1, x, x+1)
	}
	l = append(l, size-1, size, size+1, far-1, far)
	slices.Sort(l)
	return slices.Compact(l)
}

// both is what a call told, in one value.
type both struct {
	x  uint64
	ok bool
}

func pair(x uint64, ok bool) both { return both{x, ok} }

type kids struct {
	left, right uint64
	ok          bool
}

func three(a, b uint64, ok bool) kids { return kids{a, b, ok} }

// calls are those that take one number and answer one, by their names.
func calls() map[string]func(uint64) (uint64, bool) {
	return map[string]func(uint64) (uint64, bool){
		"Nodes": pos.Nodes, "Leaves": pos.Leaves, "Leaf": pos.Leaf, "Index": pos.Index,
		"Parent": pos.Parent, "Sibling": pos.Sibling, "Since": pos.Since,
	}
}
