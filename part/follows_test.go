package part_test

import (
	"slices"
	"testing"

	"massif/api"
	"massif/mmr"
)

// node is what a tree tells of a spot.
func node(t *testing.T, x *mmr.Tree, s api.Spot) api.Hash {
	t.Helper()
	z, e := x.Node(place(s))
	if e != api.OK {
		t.Fatalf("Node of %v is %v", s, e)
	}
	return z
}

// hidden tells whether the leaf j stands under a node, or is one, that has the same hash in both trees.
func hidden(t *testing.T, a, b *mmr.Tree, j, n uint64) bool {
	t.Helper()
	_, high := over(j, n)
	for h := range high + 1 {
		if s := at(h, j>>h); node(t, a, s) == node(t, b, s) {
			return true
		}
	}
	return false
}

// checkFollows holds First of two trees of one width against the words of 21.3.
func checkFollows(t *testing.T, w int, x, y []api.Hash) outcome {
	t.Helper()
	n := uint64(len(x))
	a, b := grown(t, w, x), grown(t, w, y)
	got := check(t, a.Node, b.Node, n)
	alike := slices.Equal(a.Peaks(), b.Peaks())
	switch got.e {
	case api.ErrSame:
		if !alike {
			t.Fatalf("First of %d leaves at width %d is ErrSame, their peaks are unlike", n, w)
		}
	case api.OK:
		if i := got.Index; alike || x[i] == y[i] || got.A != x[i] || got.B != y[i] {
			t.Fatalf("First of %d leaves at width %d is %v, where they are %x and %x", n, w, got.Parting, x[i], y[i])
		}
		for j := range got.Index {
			if !hidden(t, a, b, j, n) {
				t.Fatalf("First of %d leaves at width %d is %v, but %d parts them ahead of it", n, w, got.Parting, j)
			}
		}
	default:
		t.Fatalf("First of %d leaves at width %d is %v, %v", n, w, got.Parting, got.e)
	}
	return got
}

// twins are leaves with other ones under a spot, so that at the width 1 its node is alike, and all under it is unlike.
func twins(t *testing.T, leaves []api.Hash, s api.Spot) []api.Hash {
	t.Helper()
	from, to := s.Index<<s.Height, (s.Index+1)<<s.Height
	was := grow(t, leaves[from:to])
	for k := range uint64(1 << 20) {
		l := hashes(1<<30+k<<s.Height, 1<<s.Height)
		if now := grow(t, l); onlyLast(was, now) {
			return slices.Concat(leaves[:from], l, leaves[to:])
		}
	}
	t.Fatalf("no twins under %v", s)
	return nil
}

// grow is the nodes over leaves at the width 1, the highest one last.
func grow(t *testing.T, leaves []api.Hash) []api.Hash {
	t.Helper()
	l, e := mmr.Grow(1, leaves)
	if e != api.OK {
		t.Fatalf("Grow of %d leaves is %v", len(leaves), e)
	}
	return l
}

// onlyLast tells whether two lists are alike in their last one, and in no other.
func onlyLast(a, b []api.Hash) bool {
	for k := range a {
		if alike := a[k] == b[k]; alike != (k == len(a)-1) {
			return false
		}
	}
	return true
}

// Promise 21.3: at the width 1, leaves that are unlike under a node that is alike, at each spot: nobody sees them; one
// beside them that is unlike, too, is told, but where it is hidden itself.
func TestUnlikeUnderAlike(t *testing.T) {
	for n := uint64(2); n < 14; n++ {
		x := hashes(300, int(n))
		for i := range n {
			_, high := over(i, n)
			for height := 1; height <= high; height++ {
				s := at(height, i>>height)
				if s.Index<<height != i { // another leaf is the first one under it
					continue
				}
				y := twins(t, x, s)
				if got := checkFollows(t, 1, x, y); got.e != api.ErrSame {
					t.Fatalf("First of %d leaves, unlike under %v alone, is %v, %v", n, s, got.Parting, got.e)
				}
				for j := range n {
					if j>>height != s.Index {
						checkHiddenAnd(t, x, with(y, int(j), h(777)), s, j)
					}
				}
			}
		}
	}
}

// checkHiddenAnd holds First of trees of the width 1 that part under a spot that is alike, and at one leaf beside it.
func checkHiddenAnd(t *testing.T, x, y []api.Hash, s api.Spot, j uint64) {
	t.Helper()
	n := uint64(len(x))
	got := checkFollows(t, 1, x, y)
	a, b := grown(t, 1, x), grown(t, 1, y)
	if !hidden(t, a, b, j, n) && (got.e != api.OK || got.Index != j) {
		t.Fatalf("First of %d leaves, unlike under %v and at %d, is %v, %v", n, s, j, got.Parting, got.e)
	}
}

// Promise 21.3: trees of small widths and of great ones, whose leaves are drawn: each end that there is is met, at the
// width 1 with unlike leaves ahead of the one that is told, and with ErrSame of unlike leaves.
func TestDrawnTrees(t *testing.T) {
	var d dice
	under, ahead := 0, 0
	for round := range 6000 {
		w := []int{-3, 0, 1, 1, 1, 2, 3, 31, 32, 40}[round%10]
		x := hashes(d.next(1<<20), 1+int(d.next(24)))
		y := slices.Clone(x)
		for range 1 + d.next(3) {
			y[d.next(uint64(len(y)))] = h(d.next(1 << 21))
		}
		got := checkFollows(t, w, x, y)
		switch {
		case slices.Equal(x, y) && got.e != api.ErrSame:
			t.Fatalf("First of the same %d leaves is %v, %v", len(x), got.Parting, got.e)
		case got.e == api.ErrSame && !slices.Equal(x, y):
			under++
		case got.e == api.OK && !slices.Equal(x[:got.Index], y[:got.Index]):
			ahead++
		}
	}
	if under == 0 || ahead == 0 {
		t.Errorf("unlike leaves under like peaks %d times, ahead of the one that was told %d times", under, ahead)
	}
}

// Promise 21.3: at every width the same leaves are ErrSame, and trees that part at their last leaf are told so, where
// that is a peak.
func TestEachWidth(t *testing.T) {
	for w := -2; w < 36; w++ {
		for n := 1; n < 20; n++ {
			x := hashes(uint64(w+50), n)
			if got := checkFollows(t, w, x, x); got.e != api.ErrSame {
				t.Fatalf("First of the same %d leaves at width %d is %v, %v", n, w, got.Parting, got.e)
			}
			got := checkFollows(t, w, x, with(x, n-1, turned(x[n-1], 255)))
			if n%2 == 1 && (got.e != api.OK || got.Index != uint64(n-1)) {
				t.Fatalf("First of %d leaves that part at the last one at width %d is %v, %v", n, w, got.Parting, got.e)
			}
		}
	}
}
