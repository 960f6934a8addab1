package part_test

import (
	"testing"

	"massif/api"
	"massif/part"
)

// Promise 21.2: the chapter's examples.
func TestMostExamples(t *testing.T) {
	for n, want := range map[uint64]int{0: 0, 1: 1, 3: 3, 4: 5, 7: 5} {
		if got := part.Most(n); got != want {
			t.Errorf("Most(%d) is %d, want %d", n, got, want)
		}
	}
}

// mostOf is Most by the words of 21.4.
func mostOf(n uint64) int {
	m := 0
	for k, s := range peakSpots(n) {
		m = max(m, k+1+2*int(s.Height))
	}
	return m
}

// Promises 21.2 and 21.4: every n up to some hundreds, and at the ends of the numbers; above MaxLeaves 0.
func TestMost(t *testing.T) {
	sizes := great()
	for n := range uint64(700) {
		sizes = append(sizes, n)
	}
	for b := range 62 {
		sizes = append(sizes, 1<<b-1, 1<<b, 1<<b+1)
	}
	for _, n := range sizes {
		if got, want := part.Most(n), mostOf(n); got != want {
			t.Errorf("Most(%d) is %d, want %d", n, got, want)
		}
	}
	for _, n := range beyond() {
		if got := part.Most(n); got != 0 {
			t.Errorf("Most(%d) is %d", n, got)
		}
	}
}

// Promises 21.2 and 21.4: sources that part at the last leaf under the first peak make First ask for so many places; so
// do those that are alike at the last kids. Those that part at any other leaf make it ask for no more.
func TestMostIsMet(t *testing.T) {
	sizes := great()
	for n := uint64(1); n < 300; n++ {
		sizes = append(sizes, n)
	}
	for _, n := range sizes {
		high := peakSpots(n)[0].Height
		last := uint64(1)<<high - 1
		if got := check(t, plain, unlikeAt(way(last, n, 0)), n); got.e != api.OK || got.Asked != part.Most(n) {
			t.Fatalf("First of %d that part at %d is %v, %v, Most is %d", n, last, got.Parting, got.e, part.Most(n))
		}
		if high > 0 {
			if got := check(t, plain, unlikeAt(way(last, n, 1)), n); got.e != api.ErrNode || len(got.asked) != 2*part.Most(n) {
				t.Fatalf("First of %d, alike at %d, is %v, asked %d, Most is %d", n, last, got.e, len(got.asked), part.Most(n))
			}
		}
		for _, i := range leavesOf(n) {
			check(t, plain, unlikeAt(way(i, n, 0)), n)
		}
	}
}
