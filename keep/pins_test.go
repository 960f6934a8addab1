package keep_test

import (
	"fmt"
	"testing"

	"massif/api"
	"massif/keep"
)

// Promise 11.2: pins are counted up and down, several on one leaf, each leaf by itself.
func TestPinsCounted(t *testing.T) {
	k, m := of(t, 32, 2, 0, 9)
	for _, i := range []uint64{3, 3, 0, 8, 3, 8, 5} {
		same(t, "up", fmt.Sprintf("Pin(%d)", i), k.Pin(i), api.OK)
		m.pin(i)
		hold(t, "up", k, m)
	}
	same(t, "up", "Pins(3)", k.Pins(3), 3)
	sameList(t, "up", "Pinned", k.Pinned(), []uint64{0, 3, 5, 8})
	for _, i := range []uint64{3, 8, 8, 3, 0, 8, 0, 3, 3, 5, 5, 1} {
		same(t, "down", fmt.Sprintf("Unpin(%d)", i), k.Unpin(i), m.unpin(i))
		hold(t, "down", k, m)
	}
	sameList(t, "down", "Pinned", k.Pinned(), nil)
	same(t, "up again", "Pin(3)", k.Pin(3), api.OK)
	sameList(t, "up again", "Pinned", k.Pinned(), []uint64{3})
}

// Promise 11.2: leaves that are none, of all sizes, and whose Pins are 0.
func TestPinsOfNoLeaf(t *testing.T) {
	for n := range 20 {
		k, m := of(t, 1, 1, 0, n)
		for _, i := range []uint64{m.n, m.n + 1, 2*m.n + 1, most - 1, most, most + 1, 1 << 63, far} {
			when := fmt.Sprintf("leaf %d of %d", i, n)
			same(t, when, "Pin", k.Pin(i), api.ErrIndex)
			same(t, when, "Unpin", k.Unpin(i), api.ErrIndex)
			same(t, when, "Pins", k.Pins(i), 0)
		}
		hold(t, fmt.Sprintf("refused, of %d", n), k, m)
		k.Append(h(1)) // what was refused is no pin of the leaf that comes
		same(t, "grown", "Pins", k.Pins(uint64(n)), 0)
		sameList(t, "grown", "Pinned", k.Pinned(), nil)
	}
}

// Promise 11.2: a leaf can be pinned just where all nodes of its proof live, itself aside.
func TestPinOfPruned(t *testing.T) {
	for n := uint64(1); n < 10; n++ {
		for _, set := range sets(n) {
			k, m := of(t, 32, 1, 0, int(n))
			for _, i := range set {
				k.Pin(i)
				m.pin(i)
			}
			k.Prune()
			m.prune()
			for i := range n {
				same(t, fmt.Sprintf("%d leaves, %v pinned, pruned", n, set), fmt.Sprintf("Pin(%d)", i), k.Pin(i), m.pin(i))
			}
			hold(t, "pinned what lives", k, m)
			same(t, "pinned what lives", "Prune", k.Prune(), m.prune())
			hold(t, "pruned again", k, m)
		}
	}
}

// Promise 11.2: a leaf with pins whose nodes live can be given more behind Prune; Unpin asks for no node.
func TestPinsBehindPrune(t *testing.T) {
	k, m := of(t, 32, 1, 0, 6)
	k.Pin(4)
	m.pin(4)
	k.Prune()
	m.prune()
	same(t, "pruned", "Pin(4)", k.Pin(4), api.OK)
	same(t, "pruned", "Pins(4)", k.Pins(4), 2)
	same(t, "pruned", "Unpin(1)", k.Unpin(1), api.ErrPin)
	same(t, "pruned", "Unpin(4)", k.Unpin(4), api.OK)
	same(t, "pruned", "Prune", k.Prune(), 0)
	hold(t, "still pinned", k, m)
	same(t, "still pinned", "Unpin(4)", k.Unpin(4), api.OK)
	same(t, "pinned no more", "Pins(4)", k.Pins(4), 0)
	m.unpin(4)
	hold(t, "pinned no more, not yet pruned", k, m)
}

// crowded is a keep of 3 leaves of which one has so many pins.
func crowded(t *testing.T, i uint64, pins int) (*keep.Keep, *plain) {
	t.Helper()
	m := grown(32, 0, 0, 3)
	k, e, at := keep.From(32, 0, 3, m.living(), m.nodes, map[uint64]int{i: pins})
	if e != api.OK || at != 0 {
		t.Fatalf("From with %d pins is %v, %d", pins, e, at)
	}
	m.pins[i] = pins
	return k, m
}

// Promise 11.2: no leaf has more than 2^30 pins; others may still be given theirs.
func TestPinsFull(t *testing.T) {
	for i := range uint64(3) {
		k, m := crowded(t, i, full-1)
		for range 3 {
			same(t, "full", fmt.Sprintf("Pin(%d)", i), k.Pin(i), m.pin(i))
			hold(t, "full", k, m)
		}
		same(t, "full", "Pins", k.Pins(i), full)
		same(t, "full", "Pin of another", k.Pin((i+1)%3), m.pin((i+1)%3))
		same(t, "full", "Unpin", k.Unpin(i), m.unpin(i))
		same(t, "one less", "Pin", k.Pin(i), api.OK)
		same(t, "full again", "Pin", k.Pin(i), api.ErrFull)
		m.pin(i)
		hold(t, "full again", k, m)
		same(t, "full again", "Prune", k.Prune(), m.prune())
		hold(t, "full, pruned", k, m)
	}
}
