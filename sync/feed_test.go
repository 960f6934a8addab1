package sync_test

import (
	"slices"
	"testing"

	"massif/api"
	"massif/clash"
	"massif/mmr"
	"massif/proof"
)

// toward is a pair with the first m leaves of a tree that aims at the first n of it.
func toward(t *testing.T, w, log int, x *mmr.Tree, m, n uint64) *pair {
	t.Helper()
	p := at(t, w, log, leavesOf(x, 0, m))
	p.Aim(n, rootAt(t, x, n), bytesOf(t, x, m, n), api.OK)
	return p
}

// Promise 17.3: without an aim nothing is taken, not even no leaf: ahead of the first aim, behind one that was reached, was
// dropped, was missed or was refused.
func TestFeedWithoutAim(t *testing.T) {
	x := treeOf(t, 32, leaves(0, 9))
	refused := func(p *pair) {
		t.Helper()
		for _, l := range [][]api.Hash{nil, {}, leaves(0, 1), leaves(5, 1), leaves(0, 40)} {
			p.Feed(l, 0, api.ErrStage)
		}
		p.Drop(api.ErrStage)
	}
	p := newPair(t, 32, 3)
	refused(p)
	p.Aim(5, x.Root(), bytesOf(t, x, 0, 5), api.ErrRoot)
	refused(p)
	p.reach(x, 5)
	refused(p)
	p.Aim(9, x.Root(), bytesOf(t, x, 5, 9), api.OK)
	p.Drop(api.OK)
	refused(p)
	p.Aim(9, x.Root(), bytesOf(t, x, 5, 9), api.OK)
	p.Feed(leaves(0, 4), 0, api.ErrRoot)
	refused(p)
	p.Aim(5, rootAt(t, x, 5), bytesOf(t, x, 5, 5), api.OK)
	refused(p)
	p.reach(x, 9)
	refused(p)
}

// Promise 17.3: as many leaves as it lacks, one fewer and then one, at once and behind a piece; one more, or far more, are
// refused, with the right ones among them too, and then the right ones are taken.
func TestFeedCounts(t *testing.T) {
	x := treeOf(t, 32, leaves(0, 16))
	for m := range uint64(8) {
		for n := m + 1; n <= 16; n++ {
			k := int(n - m)
			for first := range k {
				p := toward(t, 32, 1, x, m, n)
				done, rest := m+uint64(first), k-first
				p.Feed(leaves(m, first), n-done, api.OK)
				for _, more := range []int{1, 2, 33, 2000} {
					p.Feed(leaves(done, rest+more), 0, api.ErrLong)
					p.Feed(leaves(900, rest+more), 0, api.ErrLong)
				}
				p.Feed(nil, n-done, api.OK)
				if rest > 1 {
					p.Feed(leaves(done, rest-1), 1, api.OK)
					p.Feed(leaves(n-1, 2), 0, api.ErrLong)
					p.Feed(leaves(n-1, 1), 0, api.OK)
				} else {
					p.Feed(leaves(done, rest), 0, api.OK)
				}
				p.Feed(nil, 0, api.ErrStage)
			}
		}
	}
}

// Promise 17.3: one bit of one leaf another, each of them: another root, and all that was fed is forgotten.
func TestFeedEachBit(t *testing.T) {
	x := treeOf(t, 32, leaves(0, 5))
	for m := range uint64(3) {
		p := at(t, 32, 2, leaves(0, int(m)))
		l := leavesOf(x, m, 5)
		for i := range l {
			for bit := range 256 {
				p.trace = nil
				p.Aim(5, x.Root(), bytesOf(t, x, m, 5), api.OK)
				p.Feed(turned(l, i, bit), 0, api.ErrRoot)
			}
		}
		p.reach(x, 5)
	}
}

// Promise 17.3: whichever piece is wrong, the first, the last or one between, is told with the last one alone; till then
// each is taken.
func TestFeedWrongPiece(t *testing.T) {
	for _, w := range []int{8, 32} {
		x := treeOf(t, w, leaves(0, 16))
		for m := range uint64(6) {
			for n := m + 1; n <= m+5; n++ {
				for _, cut := range pieces(int(n - m)) {
					for wrong := range cut {
						p := toward(t, w, 1, x, m, n)
						wrongPiece(p, m, n, cut, wrong)
						p.reach(x, n)
					}
				}
			}
		}
	}
}

// wrongPiece feeds pieces, one of them with another leaf at its end.
func wrongPiece(p *pair, m, n uint64, cut []int, wrong int) {
	p.t.Helper()
	done := m
	for j, k := range cut {
		l := leaves(done, k)
		if j == wrong {
			l = turned(l, k-1, 17)
		}
		done += uint64(k)
		if done < n {
			p.Feed(l, n-done, api.OK)
		} else {
			p.Feed(l, 0, api.ErrRoot)
		}
	}
}

// Promise 17.3: the right leaves in another order, or the first ones once more, or those that it has already, are others.
func TestFeedInAnotherOrder(t *testing.T) {
	x := treeOf(t, 32, leaves(0, 13))
	for m := range uint64(6) {
		for n := m + 2; n <= 13; n++ {
			k := int(n - m)
			back := leaves(m, k)
			slices.Reverse(back)
			first := slices.Repeat(leaves(m, 1), k)
			for _, l := range [][]api.Hash{back, first, leaves(m+1, k), make([]api.Hash, k)} {
				p := toward(t, 32, 3, x, m, n)
				p.Feed(l[:1], n-m-1, api.OK)
				p.Feed(l[1:], 0, api.ErrRoot)
			}
			if m > 0 {
				p := toward(t, 32, 3, x, m, n)
				p.Feed(leaves(m-1, k), 0, api.ErrRoot)
			}
		}
	}
}

// Promise 17.3: a leaf's hash is taken as it is: its bytes behind the width are in its node, and count for the root.
func TestFeedBehindWidth(t *testing.T) {
	for _, w := range []int{1, 2, 31} {
		x := treeOf(t, w, leaves(0, 3))
		unlike := 0
		for bit := range 256 {
			p := toward(t, w, 0, x, 0, 3)
			l := turned(leaves(0, 3), 1, bit)
			want := api.OK
			if root(w, l) != x.Root() {
				unlike++
				want = api.ErrRoot
			}
			p.Feed(l, 0, want)
		}
		if unlike < 200 {
			t.Errorf("w %d: of 256 other leaves just %d have another root", w, unlike)
		}
	}
}

// twin is another list of leaves with the same root, all of which but the one at i are the same; the width must be narrow.
func twin(t *testing.T, w int, l []api.Hash, i int) []api.Hash {
	t.Helper()
	want := root(w, l)
	for n := range uint64(1 << 20) {
		x := slices.Clone(l)
		x[i] = leaf(1<<40 + n)
		if root(w, x) == want {
			return x
		}
	}
	t.Fatalf("w %d: no other leaves with the same root", w)
	return nil
}

// Promises 17.3 and 17.7: at narrow widths other leaves have the aim's root: they are taken, they and their nodes are what
// it has, and it goes on from them as any other; of it and one that has the tree's own leaves two unlike texts with one
// hash are told.
func TestOtherLeavesWithTheRoot(t *testing.T) {
	for _, s := range [][3]int{{1, 0, 1}, {1, 0, 2}, {1, 0, 3}, {1, 2, 5}, {1, 3, 4}, {1, 4, 8}, {1, 5, 12}, {2, 0, 1}, {2, 3, 4}} {
		w, m, n := s[0], s[1], s[2]
		l := leaves(0, n)
		x := treeOf(t, w, l)
		for i := m; i < n; i++ {
			other := twin(t, w, l, i)
			p := toward(t, w, 1, x, uint64(m), uint64(n))
			p.Feed(other[m:i], uint64(n-i), api.OK)
			p.Feed(other[i:], 0, api.OK)
			if p.r.Root() != x.Root() {
				t.Fatalf("w %d, %d to %d: another root", w, m, n)
			}
			q := toward(t, w, 3, x, uint64(m), uint64(n))
			q.Feed(l[m:], 0, api.OK)
			told(t, p, q, i)
			more := treeOf(t, w, slices.Concat(other, leaves(99, 5)))
			p.reach(more, uint64(n+5))
		}
	}
}

// told has the two unlike leaves at i of two replicas with one head lead to two unlike texts with one hash.
func told(t *testing.T, p, q *pair, i int) {
	t.Helper()
	w, n, at := p.words.w, p.r.Size(), uint64(i)
	a, e := proof.Make(p.r, at, n)
	b, e2 := proof.Make(q.r, at, n)
	if e != api.OK || e2 != api.OK {
		t.Fatalf("Make of two replicas is %v, %v", e, e2)
	}
	ab, _ := proof.Encode(a)
	bb, _ := proof.Encode(b)
	c, ok := clash.Member(w, p.r.Root(), n, at, p.words.own[i], ab, q.words.own[i], bb)
	if !ok || !clash.Holds(w, c) {
		t.Fatalf("w %d, %d leaves, at %d: two replicas with one head, and no clash is told", w, n, i)
	}
}

// Promise 17.7: two replicas that have reached one head, of the width 32, have the same leaves, by whatever ways they came.
func TestOneHeadOneCopy(t *testing.T) {
	x := treeOf(t, 32, leaves(0, 21))
	for seed := range 20 {
		d := dice(seed)
		p, q := newPair(t, 32, 1), newPair(t, 32, 9)
		for _, c := range []*pair{p, q} {
			for c.r.Size() < 21 {
				c.reach(x, min(21, c.r.Size()+1+d.roll(9)))
			}
		}
		if p.r.Root() != q.r.Root() || !slices.Equal(p.words.own, q.words.own) {
			t.Fatalf("two ways to one head: unlike copies")
		}
	}
}
