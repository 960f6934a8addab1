package clash_test

import (
	"math/bits"
	"slices"
	"testing"

	"massif/api"
	"massif/clash"
	"massif/hash"
	"massif/mmr"
)

// checkPeaks holds Peaks against the words of 9.2, and answers what it said.
func checkPeaks(t *testing.T, w int, n uint64, a, b []api.Hash) bool {
	t.Helper()
	fits := n <= most && len(a) == bits.OnesCount64(n) && len(b) == len(a)
	want := fits && !slices.Equal(a, b) && bagOf(w, n, a) == bagOf(w, n, b)
	c, ok := clash.Peaks(w, n, a, b)
	checkTold(t, w, c, ok, want)
	return ok
}

// The examples of chapter 9.
func TestPeaksExamples(t *testing.T) {
	a, b := h(1), h(2)
	for _, l := range [][]api.Hash{{a}, {b}} {
		c, ok := clash.Peaks(32, 1, []api.Hash{a}, l)
		checkTold(t, 32, c, ok, false)
	}
}

// peaksBut are as many as n leaves have, of which the k-th is another one.
func peaksBut(n uint64, k int, x api.Hash) []api.Hash {
	l := hashes(70, bits.OnesCount64(n))
	l[k] = x
	return l
}

// Promises 9.2, 9.6: two lists that part in one peak, the first, the last or a middle one, whose folds meet at each step
// that hangs on it.
func TestPeaksThatPartInOne(t *testing.T) {
	const w = 2
	for n := uint64(1); n <= 48; n++ {
		for _, k := range parts(bits.OnesCount64(n)) {
			trailOf := func(x uint64) []api.Hash {
				l := peaksBut(n, k, h(x))
				return append([]api.Hash{h(x)}, folds(w, n, l, k)...)
			}
			for _, pair := range partings(t, trailOf) {
				a, b := peaksBut(n, k, h(pair[0])), peaksBut(n, k, h(pair[1]))
				if !checkPeaks(t, w, n, a, b) || !checkPeaks(t, w, n, b, a) {
					t.Fatalf("no clash of %d, peak %d: %d", n, k, pair)
				}
			}
		}
	}
}

// parts are the first, the last and a middle one of so many.
func parts(n int) []int {
	l := []int{0, n / 2, n - 1}
	slices.Sort(l)
	return slices.Compact(l)
}

// Promises 9.2, 9.6, 9.7: lists that part in all peaks, of all sizes up to some, with bytes behind the width.
func TestPeaksThatPartInAll(t *testing.T) {
	for _, w := range widths() {
		for n := range 4 * sizesOf(w) {
			met := 0
			ones := bits.OnesCount64(n)
			for k := range uint64(32) {
				for j := range uint64(32) {
					if checkPeaks(t, w, n, hashes(k*9, ones), hashes(j*9+5, ones)) {
						met++
					}
				}
			}
			if (met > 0) != (n > 0) {
				t.Errorf("of %d, with the width %d, %d are met", n, w, met)
			}
		}
	}
}

// Promise 9.2: peaks that part in their bytes behind the width alone are unlike, and their roots too, mostly.
func TestPeaksThatPartBehindTheWidth(t *testing.T) {
	met := 0
	for k := range 2000 {
		a, b := []api.Hash{{1}}, []api.Hash{{1, 30: byte(k), 31: byte(k >> 8)}}
		if checkPeaks(t, 1, 1, a, b) {
			met++
		}
	}
	if met == 0 {
		t.Error("none met")
	}
}

// Promise 9.2: with n of MaxLeaves, and around it.
func TestPeaksOfGreatSizes(t *testing.T) {
	const w = 2
	for _, n := range []uint64{1 << 32, most/2 + 1, most - 1, most} {
		k := bits.OnesCount64(n) - 1
		a, b := twins(t, func(x uint64) api.Hash { return bagOf(w, n, peaksBut(n, k, h(x))) }, always)
		if !checkPeaks(t, w, n, peaksBut(n, k, h(a)), peaksBut(n, k, h(b))) {
			t.Errorf("no clash of %d", n)
		}
	}
	for _, n := range []uint64{most + 1, 1 << 63, far} {
		a, b := hashes(1, bits.OnesCount64(n)), hashes(500, bits.OnesCount64(n))
		for x := range uint64(2000) { // Bag would fold them to one root by and by
			b[0] = h(x)
			checkPeaks(t, 1, n, a, b)
		}
	}
}

// Promise 9.2: lists that Bag refuses, both or one of them, and one list twice.
func TestPeaksThatBagRefuses(t *testing.T) {
	for _, w := range []int{1, 2, 32} {
		for n := range uint64(20) {
			for p := range 6 {
				for q := range 6 {
					checkPeaks(t, w, n, hashes(0, p), hashes(0, q))
					checkPeaks(t, w, n, hashes(0, p), hashes(40, q))
				}
			}
		}
	}
}

// Promise 9.2: one list twice, or two with unlike roots, which have unlike texts with one hash: that tells nothing.
func TestPeaksWithClashesOfTheirOwn(t *testing.T) {
	const w, n = 1, 1<<40 - 1
	for k := range uint64(50) {
		a, b := hashes(k*300, 40), hashes(k*300+7, 40)
		if checkPeaks(t, w, n, a, a) || checkPeaks(t, w, n, a, slices.Clone(a)) {
			t.Fatalf("one list twice: %d", k)
		}
		checkPeaks(t, w, n, a, b)
		checkPeaks(t, w, n, a, b[1:])
		checkPeaks(t, w, n, a[1:], b)
		checkPeaks(t, w, 2*n, a, b[1:])
	}
}

// Promise 9.2: one list is refused, and the root of the other one is what stands beside an error.
func TestPeaksWithTheRootOfZeros(t *testing.T) {
	const w = 1
	met := 0
	for ones := 30; ones < 60; ones++ { // not every size has such a root
		n := uint64(1)<<ones - 1
		for k := range uint64(400) {
			l := hashes(k*300, ones)
			if bagOf(w, n, l) != (api.Hash{}) {
				continue
			}
			met++
			for _, refused := range [][]api.Hash{nil, l[1:], l[:ones-1], append(l[:ones:ones], h(1))} {
				if checkPeaks(t, w, n, l, refused) || checkPeaks(t, w, n, refused, l) {
					t.Errorf("a clash of %d with %d peaks", n, len(refused))
				}
			}
			break
		}
	}
	if met == 0 {
		t.Error("none met")
	}
}

// Promise 9.2: unlike peaks with unlike roots tell nothing.
func TestPeaksWithUnlikeRoots(t *testing.T) {
	for n := uint64(1); n < 40; n++ {
		ones := bits.OnesCount64(n)
		if checkPeaks(t, 32, n, hashes(0, ones), hashes(1, ones)) {
			t.Errorf("a clash of %d", n)
		}
	}
}

// Promise 9.6: each of two lists may be the first one, and what is told is told again (R4). Rule R3: what lies behind
// the lists is neither read nor written, nor are the lists.
func TestPeaksAreLeftAlone(t *testing.T) {
	const w, n = 1, 7
	k, j := twins(t, func(x uint64) api.Hash { return bagOf(w, n, hashes(x*9, 3)) }, always)
	for behind := range 3 {
		a, b := hashes(k*9, 3+behind), hashes(j*9, 3+behind)
		checkSame(t, func() (api.Clash, bool) { return clash.Peaks(w, n, a[:3], b[:3]) })
		if !checkPeaks(t, w, n, a[:3], b[:3]) || !checkPeaks(t, w, n, b[:3:3], a[:3:3]) {
			t.Error("no clash")
		}
		if !slices.Equal(a, hashes(k*9, 3+behind)) || !slices.Equal(b, hashes(j*9, 3+behind)) {
			t.Error("the lists were changed")
		}
	}
}

// Promise 9.2: what the model calls a root is one.
func TestModelBags(t *testing.T) {
	for _, w := range []int{-3, 0, 1, 2, 7, 32, 99} {
		for n := range uint64(70) {
			l := hashes(n, bits.OnesCount64(n))
			if r, e := mmr.Bag(w, n, l); e != api.OK || r != bagOf(w, n, l) || r != hash.Root(w, n, folded(w, l)) {
				t.Fatalf("Bag(%d, %d, ..) is %x, %v", w, n, r, e)
			}
		}
	}
}
