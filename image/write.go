package image

import (
	"massif/keep"
	"massif/num"
)

// writer has the bytes that are written so far.
type writer struct{ b []byte }

func (w *writer) number(x uint64) { w.b = append(w.b, num.Short(x)...) }

// nodes writes those that live: how many, and each by what its place is above the least that it can be.
func (w *writer) nodes(k *keep.Keep) {
	places := k.Live()
	w.number(uint64(len(places)))
	least := uint64(0)
	for _, p := range places {
		w.number(p - least)
		h, _ := k.Node(p) // it lives
		w.b = append(w.b, h[:]...)
		least = p + 1
	}
}

// pins writes the leaves that have some, likewise, and how many each has.
func (w *writer) pins(k *keep.Keep) {
	pinned := k.Pinned()
	w.number(uint64(len(pinned)))
	least := uint64(0)
	for _, i := range pinned {
		w.number(i - least)
		w.number(uint64(k.Pins(i)))
		least = i + 1
	}
}
