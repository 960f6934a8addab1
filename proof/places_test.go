package proof_test

import (
	"slices"
	"testing"

	"massif/api"
	"massif/cut"
	"massif/pos"
	"massif/proof"
)

func checkPlaces(t *testing.T, i, n uint64, want []uint64, wantE api.Errno) {
	t.Helper()
	if got, e := proof.Places(i, n); !slices.Equal(got, want) || e != wantE {
		t.Fatalf("Places(%d, %d) is %v, %v, want %v, %v", i, n, got, e, want, wantE)
	}
}

func checkPrefixPlaces(t *testing.T, m, n uint64, want []uint64, wantE api.Errno) {
	t.Helper()
	if got, e := proof.PrefixPlaces(m, n); !slices.Equal(got, want) || e != wantE {
		t.Fatalf("PrefixPlaces(%d, %d) is %v, %v, want %v, %v", m, n, got, e, want, wantE)
	}
}

// Promises 7.1 and 7.2: the examples.
func TestPlacesExamples(t *testing.T) {
	checkPlaces(t, 1, 7, []uint64{0, 5, 9, 10}, api.OK)
	checkPlaces(t, 6, 7, []uint64{6, 9}, api.OK)
	checkPlaces(t, 0, 1, nil, api.OK)
	checkPlaces(t, 7, 7, nil, api.ErrIndex)
	checkPrefixPlaces(t, 3, 7, []uint64{2, 3, 4, 9, 10}, api.OK)
	checkPrefixPlaces(t, 0, 3, []uint64{2, 3}, api.OK)
	checkPrefixPlaces(t, 4, 4, []uint64{6}, api.OK)
	checkPrefixPlaces(t, 5, 4, nil, api.ErrSize)
}

// over tells whether the node at p stands over the leaf i.
func over(t *testing.T, p, i uint64) bool {
	t.Helper()
	from, to, ok := pos.Under(p)
	if !ok {
		t.Fatalf("nothing is under %d", p)
	}
	return from <= i && i < to
}

// Promises 7.1 and 7.7: every leaf of every size, held against Path and Peaks.
func TestPlaces(t *testing.T) {
	for n := range some + 1 {
		for i := range n {
			path, ok := pos.Path(i, n)
			if !ok {
				t.Fatalf("no path of %d of %d", i, n)
			}
			want := slices.Clone(path)
			for _, p := range pos.Peaks(n) {
				if !over(t, p, i) {
					want = append(want, p)
				}
			}
			checkPlaces(t, i, n, want, api.OK)
			checkPlaces(t, i, n, placesOf(spotsOf(i, n)), api.OK)
		}
		for _, i := range []uint64{n, n + 1, n + 2, 2*n + 1, most - 1, most, most + 1, 1 << 63, far} {
			checkPlaces(t, i, n, nil, api.ErrIndex)
		}
	}
}

// Promises 7.2 and 7.7: every beginning of every size, held against Peaks and Span.
func TestPrefixPlaces(t *testing.T) {
	for n := range some + 1 {
		for m := range n + 1 {
			want := slices.Clone(pos.Peaks(m))
			for _, s := range cut.Span(m, n) {
				p, ok := pos.Place(s)
				if !ok {
					t.Fatalf("no place of %v", s)
				}
				want = append(want, p)
			}
			checkPrefixPlaces(t, m, n, want, api.OK)
			checkPrefixPlaces(t, m, n, placesOf(prefixSpotsOf(m, n)), api.OK)
		}
		for _, m := range []uint64{n + 1, n + 2, 2*n + 1, most - 1, most, most + 1, 1 << 63, far} {
			checkPrefixPlaces(t, m, n, nil, api.ErrSize)
		}
	}
}

// made are the spots of n leaves in the order in which they are made: what stands at 0, at 1, ..
func made(n uint64) []api.Spot {
	var l []api.Spot
	for i := range n {
		s := at(0, i)
		l = append(l, s)
		for s.Index%2 == 1 {
			s = api.Spot{Height: s.Height + 1, Index: s.Index / 2}
			l = append(l, s)
		}
	}
	return l
}

// leavesUnder are the leaves under what stands at these places, one behind the other.
func leavesUnder(t *testing.T, nodes []api.Spot, places []uint64) []uint64 {
	t.Helper()
	var l []uint64
	for _, p := range places {
		if p >= uint64(len(nodes)) {
			t.Fatalf("nothing stands at %d", p)
		}
		s := nodes[p]
		for i := s.Index << s.Height; i < (s.Index+1)<<s.Height; i++ {
			l = append(l, i)
		}
	}
	return l
}

// Promises 7.1 and 7.2: in a forest that is made leaf by leaf, what a leaf's proof has lies over each other leaf once,
// what a prefix proof has over all of them, from the left.
func TestPlacesLieOverTheLeaves(t *testing.T) {
	for n := range uint64(100) {
		nodes := made(n)
		var all []uint64
		for i := range n {
			all = append(all, i)
		}
		for i := range n {
			l, _ := proof.Places(i, n)
			got := append(leavesUnder(t, nodes, l), i)
			slices.Sort(got)
			if !slices.Equal(got, all) {
				t.Fatalf("Places(%d, %d) is %v: over %v", i, n, l, got)
			}
		}
		for m := range n + 1 {
			l, _ := proof.PrefixPlaces(m, n)
			if got := leavesUnder(t, nodes, l); !slices.Equal(got, all) {
				t.Fatalf("PrefixPlaces(%d, %d) is %v: over %v", m, n, l, got)
			}
			if got := leavesUnder(t, nodes, l[:len(peaks(m))]); !slices.Equal(got, all[:m]) {
				t.Fatalf("PrefixPlaces(%d, %d) is %v: its first ones lie over %v", m, n, l, got)
			}
		}
	}
}

// once tells whether no place stands twice.
func once(l []uint64) bool {
	l = slices.Clone(l)
	slices.Sort(l)
	return len(slices.Compact(l)) == len(l)
}

// Promise 7.7: how many nodes there are, and that no place stands twice.
func TestHowManyPlaces(t *testing.T) {
	sizes := edges()
	for n := range some + 1 {
		sizes = append(sizes, n)
	}
	for _, n := range sizes {
		for _, i := range indices(n) {
			l, e := proof.Places(i, n)
			which, ok := pos.Peak(i, n)
			if !ok {
				t.Fatalf("no peak over %d of %d", i, n)
			}
			high, _ := pos.Spot(pos.Peaks(n)[which])
			if want := int(high.Height) + len(pos.Peaks(n)) - 1; len(l) != want || e != api.OK || !once(l) {
				t.Fatalf("Places(%d, %d) is %v, %v, want %d places, none twice", i, n, l, e, want)
			}
		}
		for _, m := range append(indices(n), n) {
			l, e := proof.PrefixPlaces(m, n)
			if want := len(pos.Peaks(m)) + len(cut.Span(m, n)); len(l) != want || e != api.OK || !once(l) {
				t.Fatalf("PrefixPlaces(%d, %d) is %v, %v, want %d places, none twice", m, n, l, e, want)
			}
		}
	}
}

// indices are leaves of n: all of few, of many those at edges.
func indices(n uint64) []uint64 {
	var l []uint64
	if n <= some {
		for i := range n {
			l = append(l, i)
		}
		return l
	}
	for _, x := range edges() {
		if x < n {
			l = append(l, x, n-1-x)
		}
	}
	return l
}

// Promises 7.1 and 7.2: sizes up to the greatest one.
func TestPlacesOfGreatSizes(t *testing.T) {
	for _, n := range edges() {
		for _, i := range indices(n) {
			checkPlaces(t, i, n, placesOf(spotsOf(i, n)), api.OK)
			checkPrefixPlaces(t, i, n, placesOf(prefixSpotsOf(i, n)), api.OK)
		}
		checkPrefixPlaces(t, n, n, placesOf(peaks(n)), api.OK)
		for _, i := range []uint64{n, n + 1, most + 1, 1 << 63, far} {
			checkPlaces(t, i, n, nil, api.ErrIndex)
		}
		for _, m := range []uint64{n + 1, most + 1, 1 << 63, far} {
			checkPrefixPlaces(t, m, n, nil, api.ErrSize)
		}
	}
	if l, _ := proof.Places(most-1, most); len(l) != 62 || l[0] != 1<<63-1-64 {
		t.Errorf("Places of the last leaf of all is %v", l)
	}
	checkPrefixPlaces(t, most, most, []uint64{1<<63 - 2}, api.OK)
	checkPrefixPlaces(t, 0, most, []uint64{1<<63 - 2}, api.OK)
	checkPrefixPlaces(t, 0, 0, nil, api.OK)
}

// Promises 7.1 and 7.2, rule R2: sizes that are none, told ahead of an index that is none.
func TestPlacesOfNoSize(t *testing.T) {
	for _, n := range beyond() {
		for _, i := range []uint64{0, 1, most - 1, most, most + 1, n - 1, n, n + 1, far} {
			checkPlaces(t, i, n, nil, api.ErrSize)
			checkPrefixPlaces(t, i, n, nil, api.ErrSize)
		}
	}
}

// Rule R3: lists that are answered share nothing with one another, their spare room neither.
func TestPlacesAreNew(t *testing.T) {
	for n := range uint64(80) {
		for i := range n {
			for name, call := range map[string]func(i, n uint64) ([]uint64, api.Errno){"Places": proof.Places, "PrefixPlaces": proof.PrefixPlaces} {
				a, _ := call(i, n)
				b, _ := call(i, n)
				want := slices.Clone(b)
				_ = append(a, far, far, far)
				clear(a[:cap(a)])
				if again, _ := call(i, n); !slices.Equal(b, want) || !slices.Equal(again, want) {
					t.Fatalf("%s(%d, %d): %v has become %v, and the next one is %v", name, i, n, want, b, again)
				}
			}
		}
	}
}
