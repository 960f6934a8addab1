package part_test

import (
	"slices"
	"testing"

	"massif/api"
)

// Promise 21.1 and rule R2: no leaf parts forests without one; above MaxLeaves there is no forest. Nobody is asked.
func TestNoForest(t *testing.T) {
	b := func(p uint64) (api.Hash, api.Errno) { return turned(h(p), p), api.OK }
	same(t, 0, ask(plain, b, 0), outcome{e: api.ErrSame})
	same(t, 0, ask(plain, plain, 0), outcome{e: api.ErrSame})
	for _, n := range beyond() {
		same(t, n, ask(plain, b, n), outcome{e: api.ErrSize})
		same(t, n, ask(plain, plain, n), outcome{e: api.ErrSize})
	}
}

// Promise 21.1: the peak of one leaf is that leaf.
func TestOneLeaf(t *testing.T) {
	b := unlikeAt(map[uint64]bool{0: true})
	same(t, 1, ask(plain, b, 1), outcome{api.Parting{A: h(0), B: turned(h(0), 0), Asked: 1}, api.OK, both(0)})
	same(t, 1, ask(b, plain, 1), outcome{api.Parting{A: turned(h(0), 0), B: h(0), Asked: 1}, api.OK, both(0)})
	same(t, 1, ask(b, b, 1), outcome{e: api.ErrSame, asked: both(0)})
}

// sizes are all up to some dozens, and great ones.
func sizes() []uint64 {
	l := great()
	for n := range uint64(50) {
		l = append(l, n)
	}
	return l
}

// checkIndex fails, if First of two that part on the way to the leaf i alone tells another one.
func checkIndex(t *testing.T, got outcome, i, n uint64) {
	t.Helper()
	p := place(at(0, i))
	want := api.Parting{Index: i, A: h(p), B: turned(h(p), p), Asked: askedOnWay(i, n)}
	if got.Parting != want || got.e != api.OK {
		t.Fatalf("First of %d that part at %d is %v, %v, want %v", n, i, got.Parting, got.e, want)
	}
}

// Promise 21.1: sources that part at one leaf of forests up to the greatest one: far down on the left, on the right, and
// between; at the first peak, at the last one, at one that is a leaf.
func TestFarDown(t *testing.T) {
	for _, n := range sizes() {
		for _, i := range leavesOf(n) {
			checkIndex(t, check(t, plain, unlikeAt(way(i, n, 0)), n), i, n)
		}
	}
}

// Promise 21.1: of two leaves at which they part, the first one is told, and the other one costs nothing.
func TestTwoFarDown(t *testing.T) {
	for _, n := range great() {
		leaves := leavesOf(n)
		for k, i := range leaves {
			for k := k; k < len(leaves); k += 9 {
				j := leaves[k]
				unlike := way(i, n, 0)
				for p := range way(j, n, 0) {
					unlike[p] = true
				}
				checkIndex(t, check(t, plain, unlikeAt(unlike), n), i, n)
			}
		}
	}
}

// Promise 21.1: unlike at all places: the first leaf, by one place at each height.
func TestUnlikeEverywhere(t *testing.T) {
	b := func(p uint64) (api.Hash, api.Errno) { return turned(h(p), p), api.OK }
	for _, n := range sizes() {
		if n > 0 {
			checkIndex(t, check(t, plain, b, n), 0, n)
		}
	}
}

// Promise 21.1: alike at all peaks: nothing under them is asked for, however unlike it is.
func TestAlikeAtAllPeaks(t *testing.T) {
	for _, n := range sizes() {
		var peaks []uint64
		of := map[uint64]bool{}
		for _, s := range peakSpots(n) {
			peaks = append(peaks, place(s))
			of[place(s)] = true
		}
		b := func(p uint64) (api.Hash, api.Errno) {
			if of[p] {
				return h(p), api.OK
			}
			return turned(h(p), p), api.OK
		}
		same(t, n, ask(plain, b, n), outcome{e: api.ErrSame, asked: both(peaks...)})
	}
}

// Promise 21.1: unlike on the way down to each height, and both kids alike there: ErrNode, and nothing beside it. The kids
// are the last places that are asked for, whether all that was made later is unlike or alike.
func TestKidsThatAreAlike(t *testing.T) {
	for _, n := range sizes() {
		for _, i := range leavesOf(n) {
			_, high := over(i, n)
			for low := 1; low <= high; low++ {
				s := at(low, i>>low)
				b := unlikeAt(way(i, n, low))
				checkKids(t, check(t, plain, b, n), s, n)
				checkKids(t, check(t, plain, unlikeBehind(b, place(s)), n), s, n)
			}
			checkIndex(t, check(t, plain, unlikeBehind(unlikeAt(way(i, n, 0)), place(at(0, i))), n), i, n)
		}
	}
}

// unlikeBehind tells what another one tells, but of the places behind one, which are all unlike.
func unlikeBehind(of tells, last uint64) tells {
	return func(p uint64) (api.Hash, api.Errno) {
		if p > last {
			return turned(h(p), p), api.OK
		}
		return of(p)
	}
}

// checkKids fails, if First does not tell that the kids of a spot are alike, which it asked for last.
func checkKids(t *testing.T, got outcome, s api.Spot, n uint64) {
	t.Helper()
	if got.e != api.ErrNode || got.Parting != (api.Parting{}) {
		t.Fatalf("First of %d, alike under %v, is %v, %v", n, s, got.Parting, got.e)
	}
	low := int(s.Height) - 1
	kids := both(place(at(low, 2*s.Index)), place(at(low, 2*s.Index+1)))
	if last := got.asked[len(got.asked)-4:]; !slices.Equal(last, kids) {
		t.Fatalf("First of %d, alike under %v, asked for %v last", n, s, last)
	}
}
