package sync_test

import (
	"fmt"
	"slices"
	"testing"

	"massif/api"
	"massif/mmr"
)

// answers are all that a replica can be asked, changing nothing; with places beyond all that was ever fed to it.
func answers(p *pair) string {
	n, h, ok := p.r.Want()
	s := fmt.Sprint(p.r.Size(), p.r.Root(), n, h, ok)
	for place := range uint64(80) {
		h, e := p.r.Node(place)
		s += fmt.Sprint(h, e)
	}
	for _, place := range []uint64{1 << 20, 1<<63 - 1, far} {
		h, e := p.r.Node(place)
		s += fmt.Sprint(h, e)
	}
	return s
}

// Promise 17.4: Drop at once, behind each number of leaves, and twice; without an aim it is refused.
func TestDrop(t *testing.T) {
	x := treeOf(t, 32, leaves(0, 16))
	for m := range uint64(8) {
		for n := m + 1; n <= 12; n++ {
			p := at(t, 32, 1, leaves(0, int(m)))
			p.Drop(api.ErrStage)
			was := answers(p)
			for k := range n - m {
				p.Aim(n, rootAt(t, x, n), bytesOf(t, x, m, n), api.OK)
				p.Feed(leaves(m, int(k)), n-m-k, api.OK)
				p.Drop(api.OK)
				if answers(p) != was {
					t.Fatalf("%d to %d: Drop behind %d leaves: it answers otherwise", m, n, k)
				}
				p.Drop(api.ErrStage)
				p.Feed(leaves(m+k, int(n-m-k)), 0, api.ErrStage)
			}
			p.reach(x, n)
			p.Drop(api.ErrStage)
		}
	}
}

// Promise 17.4: behind a Drop the replica lacks all of the leaves again, those that had come too.
func TestDropForgets(t *testing.T) {
	x := treeOf(t, 32, leaves(0, 9))
	p := toward(t, 32, 2, x, 2, 9)
	p.Feed(leaves(2, 6), 1, api.OK)
	p.Drop(api.OK)
	p.Aim(9, x.Root(), bytesOf(t, x, 2, 9), api.OK)
	p.Feed(leaves(8, 1), 6, api.OK)
	p.Feed(leaves(2, 6), 0, api.ErrRoot)
	p.Aim(9, x.Root(), bytesOf(t, x, 2, 9), api.OK)
	p.Feed(leaves(2, 7), 0, api.OK)
}

// troubles are all ways in which an aim from m to n is not reached; each begins with the aim.
func troubles(x *mmr.Tree, m, n uint64) map[string]func(p *pair) {
	k := int(n - m)
	aim := func(p *pair) { p.Aim(n, rootAt(p.t, x, n), bytesOf(p.t, x, m, n), api.OK) }
	return map[string]func(p *pair){
		"Drop at once": func(p *pair) { aim(p); p.Drop(api.OK) },
		"Drop behind pieces": func(p *pair) {
			aim(p)
			for i := m; i < n-1; i++ {
				p.Feed(leaves(i, 1), n-1-i, api.OK)
			}
			p.Drop(api.OK)
		},
		"Drop behind wrong pieces": func(p *pair) {
			aim(p)
			p.Feed(leaves(800, k-1), 1, api.OK)
			p.Drop(api.OK)
		},
		"too many, and Drop": func(p *pair) {
			aim(p)
			p.Feed(leaves(m, k+1), 0, api.ErrLong)
			p.Feed(leaves(m, k-1), 1, api.OK)
			p.Feed(leaves(n-1, 2), 0, api.ErrLong)
			p.Drop(api.OK)
		},
		"the first leaf wrong": func(p *pair) { aim(p); p.Feed(turned(leaves(m, k), 0, 0), 0, api.ErrRoot) },
		"the last leaf wrong":  func(p *pair) { aim(p); p.Feed(turned(leaves(m, k), k-1, 255), 0, api.ErrRoot) },
		"all wrong, one by one": func(p *pair) {
			aim(p)
			for i := m; i < n-1; i++ {
				p.Feed(leaves(800+i, 1), n-1-i, api.OK)
			}
			p.Feed(leaves(799+n, 1), 0, api.ErrRoot)
		},
		"an aim refused":                 func(p *pair) { p.Aim(n, api.Hash{}, bytesOf(p.t, x, m, n), api.ErrRoot) },
		"an aim refused by its bytes":    func(p *pair) { p.Aim(n, rootAt(p.t, x, n), nil, api.ErrCut) },
		"an aim at itself":               func(p *pair) { p.Aim(m, rootAt(p.t, x, m), bytesOf(p.t, x, m, m), api.OK) },
		"a second aim, and a wrong leaf": func(p *pair) { aim(p); p.Aim(n, api.Hash{}, nil, api.ErrStage); p.Feed(leaves(700, k), 0, api.ErrRoot) },
	}
}

// Promise 17.6: whatever it is fed, behind Drop, an error, or a root that is another one, it answers as it did ahead of the
// aim; and the aim, or another one, is reached all the same, also behind all of these in turn.
func TestUndone(t *testing.T) {
	for _, w := range []int{12, 32} {
		x := treeOf(t, w, leaves(0, 16))
		for m := range uint64(9) {
			for n := m + 1; n <= m+5; n++ {
				for name, trouble := range troubles(x, m, n) {
					p := at(t, w, int(n)%4, leaves(0, int(m)))
					was := answers(p)
					for range 2 {
						trouble(p)
						if answers(p) != was {
							t.Fatalf("%d to %d, %s: it answers otherwise", m, n, name)
						}
					}
					p.reach(x, n)
					p.reach(x, n+2)
				}
			}
		}
	}
}

// Promise 17.6: behind trouble with one tree's leaves another one's head is reached that begins with the replica's.
func TestAnotherTreeBehindTrouble(t *testing.T) {
	for m := range uint64(6) {
		x := treeOf(t, 32, leaves(0, 16))
		other := treeOf(t, 32, slices.Concat(leaves(0, int(m)), leaves(300, 10)))
		for name, trouble := range troubles(x, m, m+4) {
			p := at(t, 32, 0, leaves(0, int(m)))
			p.name += ", " + name
			trouble(p)
			p.reach(other, m+3)
			p.Aim(m+4, rootAt(t, x, m+4), bytesOf(t, x, m, m+4), api.ErrSize)
			p.reach(other, m+10)
		}
	}
}

// Promise 17.6: far ahead of where the leaves end, with thousands of them fed, and with an aim that nobody can reach.
func TestUndoneOfMany(t *testing.T) {
	const k = 5000
	x := treeOf(t, 32, leaves(0, k))
	p := at(t, 32, 5, leaves(0, 21))
	was := answers(p)
	for _, n := range []uint64{k + 21, 1 << 40, most} {
		r, b := madeUp(t, &p.words, n)
		if e := p.r.Aim(n, r, b); e != api.OK {
			t.Fatalf("Aim(%d) is %v", n, e)
		}
		want := n - 21 - (k - 1)
		if left, e := p.r.Feed(leaves(21, k-1)); left != want || e != api.OK {
			t.Fatalf("Feed of %d is %d, %v, want %d", k-1, left, e, want)
		}
		if n == k+21 {
			if left, e := p.r.Feed(leaves(0, 1)); left != 0 || e != api.ErrRoot {
				t.Fatalf("Feed of the last leaf is %d, %v", left, e)
			}
		} else if e := p.r.Drop(); e != api.OK {
			t.Fatalf("Drop is %v", e)
		}
		if answers(p) != was {
			t.Fatalf("aimed at %d: it answers otherwise", n)
		}
	}
	if e := p.r.Aim(k, x.Root(), bytesOf(t, x, 21, k)); e != api.OK {
		t.Fatalf("Aim(%d) is %v", k, e)
	}
	if left, e := p.r.Feed(leaves(21, k-21)); left != 0 || e != api.OK || p.r.Root() != x.Root() || p.r.Size() != k {
		t.Fatalf("Feed is %d, %v; the size is %d", left, e, p.r.Size())
	}
}
