package span_test

import (
	"slices"
	"testing"

	"massif/api"
	"massif/many"
	"massif/pos"
	"massif/proof"
	"massif/span"
)

func checkPlaces(t *testing.T, r reach, want []uint64, wantE api.Errno) {
	t.Helper()
	if got, e := span.Places(r.from, r.to, r.n); !slices.Equal(got, want) || e != wantE {
		t.Fatalf("Places(%d, %d, %d) is %v, %v, want %v, %v", r.from, r.to, r.n, got, e, want, wantE)
	}
}

// Promise 20.1: the examples.
func TestPlacesExamples(t *testing.T) {
	checkPlaces(t, reach{1, 3, 7}, []uint64{0, 4, 9, 10}, api.OK)
	checkPlaces(t, reach{0, 7, 7}, nil, api.OK)
	checkPlaces(t, reach{3, 3, 7}, []uint64{6, 9, 10}, api.OK)
	checkPlaces(t, reach{4, 6, 7}, []uint64{6, 10}, api.OK)
	checkPlaces(t, reach{3, 2, 7}, nil, api.ErrIndex)
	checkPlaces(t, reach{0, 8, 7}, nil, api.ErrIndex)
	checkPlaces(t, reach{0, 1 << 61, most}, []uint64{1<<63 - 3}, api.OK)
}

// Promises 20.1 and 20.7: every span of every small size: of all nodes one by one, by the words of 10.1, and as chapter
// 10 says of all its indices.
func TestPlacesOfAllSpans(t *testing.T) {
	for _, r := range spansUpTo(41) {
		want := needs(r)
		checkPlaces(t, r, want, api.OK)
		if l, e := many.Places(r.index(), r.n); e != api.OK || !slices.Equal(l, want) {
			t.Fatalf("many.Places of %v are %v, %v, want %v", r, l, e, want)
		}
		if other := placesOf(r); !slices.Equal(other, want) {
			t.Fatalf("the two models part at %v: %v, %v", r, want, other)
		}
	}
}

// Promises 20.1 and 20.7: sizes up to the greatest one, the ends of the spans anywhere: the places are few, however many
// leaves there are.
func TestPlacesOfGreatSizes(t *testing.T) {
	for _, n := range great() {
		for _, r := range someOf(n) {
			want := placesOf(r)
			checkPlaces(t, r, want, api.OK)
			if len(want) > 200 {
				t.Fatalf("%v needs %d nodes", r, len(want))
			}
		}
		for _, r := range shortOf(n) {
			want, _ := many.Places(r.index(), n)
			checkPlaces(t, r, want, api.OK)
		}
	}
	for _, x := range []struct {
		r    reach
		many int
	}{{reach{1, most - 1, most}, 2}, {reach{1<<61 - 1, 1<<61 + 1, most}, 122}, {reach{0, most, most}, 0}, {reach{0, most - 1, most - 1}, 0}, {reach{5, 5, most - 1}, 62}, {reach{1, most, most}, 1}, {reach{0, most - 1, most}, 1}} {
		if l, e := span.Places(x.r.from, x.r.to, x.r.n); len(l) != x.many || e != api.OK {
			t.Errorf("Places(%v) are %d, %v, want %d", x.r, len(l), e, x.many)
		}
	}
}

// Promise 20.1: any spans of any sizes.
func TestPlacesOfAnySpans(t *testing.T) {
	d := dice(3)
	for range 5000 {
		n := d.next(1<<31)*d.next(1<<31)>>d.next(62) + 1
		a, b := d.next(1<<31)*d.next(1<<31)%(n+1), d.next(1<<31)*d.next(1<<31)%(n+1)
		r := reach{min(a, b), max(a, b), n}
		checkPlaces(t, r, placesOf(r), api.OK)
	}
}

// Promise 20.1: no leaves, one leaf.
func TestPlacesOfNoneAndOne(t *testing.T) {
	checkPlaces(t, reach{0, 0, 0}, nil, api.OK)
	checkPlaces(t, reach{0, 1, 0}, nil, api.ErrIndex)
	checkPlaces(t, reach{1, 1, 0}, nil, api.ErrIndex)
	checkPlaces(t, reach{1, 0, 0}, nil, api.ErrIndex)
	checkPlaces(t, reach{0, 0, 1}, []uint64{0}, api.OK)
	checkPlaces(t, reach{1, 1, 1}, []uint64{0}, api.OK)
	checkPlaces(t, reach{0, 1, 1}, nil, api.OK)
	checkPlaces(t, reach{0, 2, 1}, nil, api.ErrIndex)
	checkPlaces(t, reach{2, 2, 1}, nil, api.ErrIndex)
}

// Promise 20.1, rule R2: a size that is none, ahead of a span that is none; from above to, and to above n.
func TestPlacesOfWrongSpans(t *testing.T) {
	for _, n := range beyond() {
		for _, r := range []reach{{0, 0, n}, {0, 1, n}, {1, 0, n}, {0, n, n}, {n, n, n}, {n, 0, n}, {far, 0, n}, {0, far, n}, {far, far, n}, {n - 1, n, n}} {
			checkPlaces(t, r, nil, api.ErrSize)
		}
	}
	for _, n := range []uint64{0, 1, 6, 7, 8, most - 1, most} {
		for _, r := range []reach{{0, n + 1, n}, {n, n + 1, n}, {n + 1, n + 1, n}, {n + 1, n, n}, {n + 1, 0, n}, {n + 2, n + 1, n}, {0, far, n}, {far, far, n}, {far, 0, n}, {1, 0, n}, {far, far - 1, n}, {0, 1 << 63, n}} {
			checkPlaces(t, r, nil, api.ErrIndex)
		}
	}
	for _, r := range wrongSpans() {
		checkPlaces(t, r, nil, wrongSpan(r))
	}
}

// Promise 20.1, rule R2: all numbers around all small sizes, right and wrong ones.
func TestPlacesOfAnyNumbers(t *testing.T) {
	for n := range uint64(9) {
		for from := range n + 3 {
			for to := range n + 3 {
				r := reach{from, to, n}
				if e := wrongSpan(r); e != api.OK {
					checkPlaces(t, r, nil, e)
				} else {
					checkPlaces(t, r, needs(r), api.OK)
				}
			}
		}
	}
}

// Promise 20.7: of all leaves there are none; of no leaf, wherever that is, they are the peaks; the leaves m to n - 1 need
// the nodes of Peaks(m), and so all is what they and the leaves behind tell.
func TestPlacesOfEnds(t *testing.T) {
	for n := range uint64(70) {
		checkPlaces(t, reach{0, n, n}, nil, api.OK)
		for m := range n + 1 {
			checkPlaces(t, reach{m, m, n}, pos.Peaks(n), api.OK)
			if m < n {
				checkPlaces(t, reach{m, n, n}, pos.Peaks(m), api.OK)
			}
		}
	}
	for _, n := range great() {
		checkPlaces(t, reach{0, n, n}, nil, api.OK)
		for _, m := range edgesOf(n) {
			checkPlaces(t, reach{m, m, n}, pos.Peaks(n), api.OK)
			if m < n {
				checkPlaces(t, reach{m, n, n}, pos.Peaks(m), api.OK)
			}
		}
	}
}

// Promise 20.7: of one leaf they are chapter 7's, rising.
func TestPlacesOfOneLeaf(t *testing.T) {
	for _, n := range append(great(), 1, 2, 3, 7, 8, 21, 64) {
		for _, i := range edgesOf(n) {
			if i < n {
				one, _ := proof.Places(i, n)
				slices.Sort(one)
				checkPlaces(t, reach{i, i + 1, n}, one, api.OK)
			}
		}
	}
}

// Promises 20.1 and 10.1: under what a span needs stand just all the other leaves, each once, from the left.
func TestOthersStandUnderPlaces(t *testing.T) {
	for _, r := range spansUpTo(25) {
		nodes := made(r.n)
		l, _ := span.Places(r.from, r.to, r.n)
		var got []uint64
		for _, p := range l {
			s := nodes[p]
			got = append(got, reach{s.Index << s.Height, (s.Index + 1) << s.Height, r.n}.index()...)
		}
		want := append(reach{0, r.from, r.n}.index(), reach{r.to, r.n, r.n}.index()...)
		if !slices.Equal(got, want) || !slices.IsSorted(l) {
			t.Fatalf("Places(%v) is %v: over %v, want %v", r, l, got, want)
		}
	}
}

// Rule R3: lists that are answered share nothing with one another, their spare room neither.
func TestPlacesAreNew(t *testing.T) {
	for _, r := range spansUpTo(12) {
		a, _ := span.Places(r.from, r.to, r.n)
		b, _ := span.Places(r.from, r.to, r.n)
		want := needs(r)
		_ = append(a, far, far, far)
		clear(a[:cap(a)])
		if !slices.Equal(b, want) {
			t.Fatalf("Places(%v): %v has become %v", r, want, b)
		}
		checkPlaces(t, r, want, api.OK)
	}
}
