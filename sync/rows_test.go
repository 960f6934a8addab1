package sync_test

import (
	"testing"

	"massif/api"
	"massif/pos"
	"massif/sync"
)

// Promise 17.5: by every rising row of small sizes a replica comes to the tree's size, root and nodes; between them it has
// those of the size that it was at.
func TestRows(t *testing.T) {
	for turn, w := range []int{1, 2, 3, 20, 31, 32} {
		x := treeOf(t, w, leaves(uint64(w), 9))
		for n := uint64(1); n <= 8; n++ {
			for j, row := range rows(n) {
				p := newPair(t, w, (turn+j)%17)
				for _, size := range row {
					p.reach(x, size)
					if p.r.Size() != size || p.r.Root() != rootAt(t, x, size) {
						t.Fatalf("row %v: at %d the size is %d, the root %x", row, size, p.r.Size(), p.r.Root())
					}
				}
			}
		}
	}
}

// Promise 17.5: whatever pieces the leaves come in, from every small size to every other; pieces of no leaf change nothing.
func TestPieces(t *testing.T) {
	for _, w := range []int{2, 32} {
		x := treeOf(t, w, leaves(70, 16))
		for m := range uint64(9) {
			for k := 1; k <= 7; k++ {
				for j, cut := range pieces(k) {
					p := at(t, w, (j+k)%5, leaves(70, int(m)))
					feedPieces(p, m, m+uint64(k), cut, func() { p.Aim(m+uint64(k), rootAt(t, x, m+uint64(k)), bytesOf(t, x, m, m+uint64(k)), api.OK) })
				}
			}
		}
	}
}

// feedPieces aims, and feeds leaf(70 + m), .. in pieces, with pieces of none between.
func feedPieces(p *pair, m, n uint64, cut []int, aim func()) {
	p.t.Helper()
	aim()
	from := m
	for j, k := range cut {
		p.Feed([][]api.Hash{nil, {}}[j%2], n-from, api.OK)
		l := leaves(70+from, k)
		from += uint64(k)
		p.Feed(l, n-from, api.OK)
		if ahead := p.r.Size(); from < n && ahead != m || from == n && ahead != n {
			p.t.Fatalf("%d to %d in %v: with %d leaves the size is %d", m, n, cut, from, ahead)
		}
	}
}

// Promise 17.5: the other way round too: a tree that goes on is followed through many heads, in pieces that are drawn.
func TestFollowed(t *testing.T) {
	for seed, w := range []int{1, 7, 32} {
		d := dice(seed)
		const all = 150
		x := treeOf(t, w, leaves(0, all))
		p := newPair(t, w, seed+1)
		for m := uint64(0); m < all; {
			n := min(all, m+d.roll(20))
			p.Aim(n, rootAt(t, x, n), bytesOf(t, x, m, n), api.OK)
			for m < n {
				k := min(n-m, d.roll(7))
				m += k
				p.Feed(leaves(m-k, int(k)), n-m, api.OK)
			}
		}
	}
}

// Promise 17.5: thousands of leaves, one by one under one aim, and with an aim each; all nodes are the tree's. (Who goes
// through all that it has with each of them does not come to an end.)
func TestMany(t *testing.T) {
	const all = 1 << 15
	x := treeOf(t, 32, leaves(0, all))
	once, each := empty(t), empty(t)
	if e := once.Aim(all, x.Root(), bytesOf(t, x, 0, all)); e != api.OK {
		t.Fatalf("Aim(%d) is %v", all, e)
	}
	for i := range uint64(all) {
		l := leaves(i, 1)
		if left, e := once.Feed(l); left != all-1-i || e != api.OK {
			t.Fatalf("Feed of leaf %d is %d, %v", i, left, e)
		}
		if e := each.Aim(i+1, rootAt(t, x, i+1), bytesOf(t, x, i, i+1)); e != api.OK {
			t.Fatalf("Aim(%d) is %v", i+1, e)
		}
		if left, e := each.Feed(l); left != 0 || e != api.OK || each.Size() != i+1 {
			t.Fatalf("Feed of leaf %d is %d, %v, the size %d", i, left, e, each.Size())
		}
	}
	total, _ := pos.Nodes(all)
	for _, r := range []*sync.Replica{once, each} {
		if r.Size() != all || r.Root() != x.Root() {
			t.Fatalf("the size is %d, the root %x", r.Size(), r.Root())
		}
		for p := range total {
			got, e := r.Node(p)
			if want, _ := x.Node(p); got != want || e != api.OK {
				t.Fatalf("Node(%d) is %x, %v", p, got, e)
			}
		}
		if _, e := r.Node(total); e != api.ErrPlace {
			t.Fatalf("Node(%d) is %v", total, e)
		}
	}
}

func empty(t *testing.T) *sync.Replica {
	t.Helper()
	r, e := sync.New(32, 6)
	if e != api.OK {
		t.Fatalf("New is %v", e)
	}
	return r
}
