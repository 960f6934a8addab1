package pos_test

import (
	"math/bits"
	"slices"
	"testing"

	"massif/pos"
)

// Promise 3.6: held against a forest that is made leaf by leaf.
func TestPeaksAndPaths(t *testing.T) {
	f := grow(300)
	for n := range uint64(301) {
		peaks := f.peaks(n)
		if got := pos.Peaks(n); !slices.Equal(got, peaks) {
			t.Fatalf("Peaks(%d) are %v, want %v", n, got, peaks)
		}
		for i := range n {
			path, peak := f.path(i, n)
			if got, ok := pos.Path(i, n); !ok || !slices.Equal(got, path) {
				t.Fatalf("Path(%d, %d) is %v, %v, want %v", i, n, got, ok, path)
			}
			if k, ok := pos.Peak(i, n); !ok || k != slices.Index(peaks, peak) {
				t.Fatalf("Peak(%d, %d) is %d, %v, want that at %d", i, n, k, ok, peak)
			}
		}
	}
}

// Promise 3.6: an index that no leaf has, a size that no forest has.
func TestNoPeakNoPath(t *testing.T) {
	refused := func(i, n uint64) {
		t.Helper()
		if k, ok := pos.Peak(i, n); ok || k != 0 {
			t.Errorf("Peak(%d, %d) is %d, %v", i, n, k, ok)
		}
		if l, ok := pos.Path(i, n); ok || len(l) != 0 {
			t.Errorf("Path(%d, %d) is %v, %v", i, n, l, ok)
		}
	}
	for _, n := range edges() {
		if n > most {
			if l := pos.Peaks(n); len(l) != 0 {
				t.Errorf("Peaks(%d) are %v", n, l)
			}
			refused(n-1, n)
			refused(0, n)
			refused(5, n)
		}
		refused(n, n)
		if n < far {
			refused(n+1, n)
		}
		refused(far, n)
	}
}

// Promise 3.9: the peaks of sizes of all kinds.
func TestPeaksOfGreatForests(t *testing.T) {
	for _, n := range edges() {
		if n > most {
			continue
		}
		l := pos.Peaks(n)
		m, _ := pos.Nodes(n)
		if len(l) != bits.OnesCount64(n) {
			t.Fatalf("Peaks(%d) are %d", n, len(l))
		}
		next, height := uint64(0), uint8(63)
		for _, p := range l {
			from, to, ok := pos.Under(p)
			s, _ := pos.Spot(p)
			if !ok || from != next || s.Height >= height || p >= m {
				t.Fatalf("the peak %d of %d leaves, of height %d, is over %d to %d", p, n, s.Height, from, to)
			}
			if up, ok := pos.Parent(p); ok && up < m {
				t.Fatalf("the peak %d of %d leaves has a parent at %d", p, n, up)
			}
			next, height = to, s.Height
		}
		if next != n {
			t.Fatalf("under the peaks of %d leaves are %d", n, next)
		}
	}
}

// Promise 3.9: just the peaks have no parent among the first places.
func TestOnlyPeaksLackAParent(t *testing.T) {
	for n := range uint64(200) {
		l := pos.Peaks(n)
		m, _ := pos.Nodes(n)
		for p := range m {
			up, ok := pos.Parent(p)
			if (!ok || up >= m) != slices.Contains(l, p) {
				t.Fatalf("the parent of %d, of %d leaves, is %d", p, n, up)
			}
		}
	}
}

// Promise 3.10: the ways of leaves in forests of all kinds.
func TestPathsOfGreatForests(t *testing.T) {
	for _, n := range edges() {
		if n == 0 || n > most {
			continue
		}
		peaks := pos.Peaks(n)
		for _, i := range append(edges(), n-1, n/2, n/3) {
			if i >= n {
				continue
			}
			k, ok := pos.Peak(i, n)
			path, is := pos.Path(i, n)
			if !ok || !is || k >= len(peaks) {
				t.Fatalf("Peak, Path of %d, %d: %d %v, %v", i, n, k, ok, is)
			}
			if from, to, _ := pos.Under(peaks[k]); i < from || i >= to {
				t.Fatalf("Peak(%d, %d) is %d, over %d to %d", i, n, k, from, to)
			}
			if s, _ := pos.Spot(peaks[k]); len(path) != int(s.Height) {
				t.Fatalf("Path(%d, %d) has %d places, under a peak of height %d", i, n, len(path), s.Height)
			}
			checkWay(t, i, path, peaks[k])
		}
	}
}

func checkWay(t *testing.T, i uint64, path []uint64, peak uint64) {
	t.Helper()
	p, _ := pos.Leaf(i)
	for _, sib := range path {
		if got, ok := pos.Sibling(p); !ok || got != sib {
			t.Fatalf("on the way of %d: beside %d stands %d, not %d", i, p, got, sib)
		}
		p, _ = pos.Parent(p)
	}
	if p != peak {
		t.Fatalf("the way of %d ends at %d, not at %d", i, p, peak)
	}
}

// Rule R3: lists that are answered share nothing with one another, their spare room neither.
func TestListsAreNew(t *testing.T) {
	path := func() []uint64 { l, _ := pos.Path(3, 100); return l }
	for _, call := range []func() []uint64{func() []uint64 { return pos.Peaks(107) }, path} {
		a, b := call(), call()
		want := slices.Clone(b)
		clear(a[:cap(a)])
		_ = append(a, 1, 2, 3, 4, 5, 6, 7, 8)
		if !slices.Equal(b, want) || !slices.Equal(call(), want) {
			t.Errorf("%v has become %v, and the next one %v", want, b, call())
		}
	}
}
