package pos

import (
	"slices"

	"massif/api"
	"massif/num"
)

// Peaks are the places of the peaks of n leaves, from the left.
func Peaks(n uint64) []uint64 {
	if n > api.MaxLeaves {
		return nil
	}
	heights := num.Bits(n)
	places := make([]uint64, 0, len(heights))
	var made uint64
	for _, h := range slices.Backward(heights) {
		made += tree(h)
		places = append(places, made-1)
	}
	return places
}

// Peak is which of the peaks of n leaves stands over the leaf i.
func Peak(i, n uint64) (int, bool) {
	h, ok := rise(i, n)
	if !ok {
		return 0, false
	}
	return num.Ones(n >> h >> 1), true
}

// rise is how high the peak over the leaf i is. It is the first peak from the left that ends behind i: i has the
// bits of those ahead of it, and lacks its own.
func rise(i, n uint64) (int, bool) {
	if n > api.MaxLeaves || i >= n {
		return 0, false
	}
	return num.High(i ^ n), true
}

// Path are the places of the siblings on the way from the leaf i to its peak, from below.
func Path(i, n uint64) ([]uint64, bool) {
	high, ok := rise(i, n)
	if !ok {
		return nil, false
	}
	places := make([]uint64, 0, high)
	p := ahead(i)
	for h := range high {
		right := i>>h&1 == 1
		places = append(places, beside(p, h, right))
		p = over(p, h, right)
	}
	return places, true
}
