package part_test

import (
	"testing"

	"massif/api"
	"massif/part"
)

// nodes is how many nodes a forest of n leaves has.
func nodes(n uint64) int {
	count := 0
	for _, s := range peakSpots(n) {
		count += 2<<s.Height - 1
	}
	return count
}

// Promises 21.1, 21.2 and 21.4: each way in which two sources can be alike and unlike, place by place: in one of them
// First asks for as many places as Most says, in none for more.
func TestEachTelling(t *testing.T) {
	for n := range uint64(9) {
		seen := 0
		for set := range 1 << nodes(n) {
			b := func(p uint64) (api.Hash, api.Errno) {
				if set>>p&1 == 1 {
					return turned(h(p), p), api.OK
				}
				return h(p), api.OK
			}
			got := check(t, plain, b, n)
			seen = max(seen, len(got.asked)/2)
		}
		if want := part.Most(n); seen != want {
			t.Errorf("First of %d asked for %d places at most, Most is %d", n, seen, want)
		}
	}
}

// Promise 21.1: each place alike, unlike, refused by a, by b or by both, in each way.
func TestEachTellingAndRefusal(t *testing.T) {
	for n := range uint64(5) {
		count := nodes(n)
		kinds := make([]int, count)
		for {
			a := func(p uint64) (api.Hash, api.Errno) {
				if k := kinds[p]; k == 2 || k == 4 {
					return h(p + 50), api.Errno(100 + p)
				}
				return h(p), api.OK
			}
			b := func(p uint64) (api.Hash, api.Errno) {
				switch kinds[p] {
				case 1:
					return turned(h(p), 255), api.OK
				case 3, 4:
					return h(p), api.Errno(200 + p)
				}
				return h(p), api.OK
			}
			check(t, a, b, n)
			if !counted(kinds, 5) {
				break
			}
		}
	}
}

// counted counts on by one, in digits below base: false, behind the last number.
func counted(digits []int, base int) bool {
	for i := range digits {
		digits[i]++
		if digits[i] < base {
			return true
		}
		digits[i] = 0
	}
	return false
}

// drawn tells by place, in a way that is drawn: one of so many places is unlike, one of so many is refused.
func drawn(seed, unlike, refused uint64) tells {
	return func(p uint64) (api.Hash, api.Errno) {
		d := dice(seed ^ p*0x9e3779b97f4a7c15)
		if d.next(refused) == 1 {
			return h(p), api.Errno(1 + d.next(300))
		}
		if d.next(unlike) != 0 {
			return turned(h(p), d.next(256)), api.OK
		}
		return h(p), api.OK
	}
}

// Promises 21.1 and 21.4: sources that tell whatever was drawn, of small and of great sizes.
func TestDrawnTellings(t *testing.T) {
	sizes := great()
	for n := range uint64(80) {
		sizes = append(sizes, n)
	}
	ended := map[api.Errno]int{}
	for _, n := range sizes {
		for seed := range uint64(60) {
			for _, refused := range []uint64{5, 40, 4000} {
				got := check(t, plain, drawn(seed*977+n, 1+seed%4, refused), n)
				ended[got.e]++
				check(t, drawn(seed, 1+seed%3, refused), plain, n)
				check(t, drawn(seed, 2, refused), drawn(seed+1, 2, refused), n)
			}
		}
	}
	for _, e := range []api.Errno{api.OK, api.ErrSame, api.ErrNode, 7} {
		if ended[e] == 0 {
			t.Errorf("no drawn telling ended with %v", e)
		}
	}
}

// Promise 21.1: hashes are unlike that part in any one bit, behind every width, too.
func TestOneBit(t *testing.T) {
	for bit := range uint64(256) {
		for n := uint64(1); n < 6; n++ {
			for i := range n {
				b := func(p uint64) (api.Hash, api.Errno) {
					if way(i, n, 0)[p] {
						return turned(h(p), bit), api.OK
					}
					return h(p), api.OK
				}
				want := api.Parting{Index: i, A: h(place(at(0, i))), Asked: askedOnWay(i, n)}
				want.B = turned(want.A, bit)
				if got := check(t, plain, b, n); got.Parting != want || got.e != api.OK {
					t.Fatalf("First of %d, with the bit %d unlike on the way to %d, is %v, %v", n, bit, i, got.Parting, got.e)
				}
			}
		}
	}
}
