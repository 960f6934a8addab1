package many

import (
	"slices"

	"massif/api"
	"massif/pos"
)

// wrong is what a wrong proof panics with, as deep within as that is found.
type wrong api.Errno

// face does what may find a proof wrong, and answers what is wrong with it.
func face(do func()) (e api.Errno) {
	defer func() {
		if r := recover(); r != nil {
			e = api.Errno(r.(wrong)) // nothing else here panics
		}
	}()
	do()
	return api.OK
}

// mustRise gives up where leaves are not those of n, or do not rise.
func mustRise(index []uint64, n uint64) {
	if n > api.MaxLeaves {
		panic(wrong(api.ErrSize))
	}
	for k, i := range index {
		if k > 0 && i <= index[k-1] {
			panic(wrong(api.ErrOrder))
		}
		if i >= n {
			panic(wrong(api.ErrIndex))
		}
	}
}

// mustBeWhole gives up where a proof has other leaves than there are, or other nodes than they need.
func mustBeWhole(p api.Many) {
	mustRise(p.Index, p.Size)
	left := len(p.Nodes)
	need(p.Index, p.Size, func(uint64) {
		if left == 0 { // at once: leaves may need far more nodes than they are
			panic(wrong(api.ErrCount))
		}
		left--
	})
	if left > 0 {
		panic(wrong(api.ErrCount))
	}
}

// need tells take the places of the nodes that leaves need, rising.
func need(index []uint64, n uint64, take func(p uint64)) {
	for _, p := range pos.Peaks(n) {
		mine, others := split(index, p)
		needUnder(p, mine, take)
		index = others
	}
}

// needUnder does so of the leaves under p, which are all that are handed in. The left kid comes first, and so all that is
// under it: that has lower places than what is under the right one.
func needUnder(p uint64, index []uint64, take func(p uint64)) {
	if len(index) == 0 {
		take(p)
		return
	}
	left, right, ok := pos.Kids(p)
	if !ok {
		return
	}
	ofLeft, ofRight := split(index, left)
	needUnder(left, ofLeft, take)
	needUnder(right, ofRight, take)
}

// split parts rising leaves behind the last one under p.
func split(index []uint64, p uint64) ([]uint64, []uint64) {
	_, end, _ := pos.Under(p)
	k, _ := slices.BinarySearch(index, end)
	return index[:k], index[k:]
}
