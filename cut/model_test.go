package cut_test

import (
	"math/big"
	"slices"
	"testing"

	"massif/api"
	"massif/pos"
)

const (
	most = uint64(api.MaxLeaves)
	far  = ^uint64(0)
)

// at is a spot.
func at(h uint8, k uint64) api.Spot { return api.Spot{Height: h, Index: k} }

// told is what Over tells, in one value.
type told struct {
	from, to uint64
	ok       bool
}

func three(from, to uint64, ok bool) told { return told{from, to, ok} }

// begins and ends are worked out in whole numbers that do not wrap round.
func begins(s api.Spot) *big.Int {
	x := new(big.Int).SetUint64(s.Index)
	return x.Lsh(x, uint(s.Height))
}

func ends(s api.Spot) *big.Int {
	x := new(big.Int).SetUint64(s.Index)
	x.Add(x, big.NewInt(1))
	return x.Lsh(x, uint(s.Height))
}

func isRight(s api.Spot) bool { return ends(s).Cmp(new(big.Int).SetUint64(most)) <= 0 }

// over is what Over is to tell.
func over(l []api.Spot) told {
	for i, s := range l {
		if !isRight(s) || i > 0 && ends(l[i-1]).Cmp(begins(s)) != 0 {
			return told{}
		}
	}
	if len(l) == 0 {
		return told{}
	}
	return told{begins(l[0]).Uint64(), ends(l[len(l)-1]).Uint64(), true}
}

// tilings are all lists of right spots over just the leaves from, .., to - 1, for leaves below 2 to the 16.
func tilings(from, to uint64) [][]api.Spot {
	if from == to {
		return [][]api.Spot{nil}
	}
	var all [][]api.Spot
	for h := range uint8(16) {
		width := uint64(1) << h
		if from%width != 0 || from+width > to {
			break
		}
		for _, rest := range tilings(from+width, to) {
			all = append(all, append([]api.Spot{at(h, from/width)}, rest...))
		}
	}
	return all
}

// shortest is the shortest list over just these leaves, searched among all first spots, and how many there are of
// that length; of leaves below 2 to the 16.
func shortest(from, to uint64) ([]api.Spot, int) {
	best := map[uint64][]api.Spot{to: nil}
	count := map[uint64]int{to: 1}
	for leaf := to; leaf > from; {
		leaf--
		for h := range uint8(16) {
			width := uint64(1) << h
			if leaf%width != 0 || leaf+width > to {
				continue
			}
			l := append([]api.Spot{at(h, leaf/width)}, best[leaf+width]...)
			switch old, ok := best[leaf]; {
			case !ok || len(l) < len(old):
				best[leaf], count[leaf] = l, count[leaf+width]
			case len(l) == len(old):
				count[leaf] += count[leaf+width]
			}
		}
	}
	return best[from], count[from]
}

// made are the nodes of n leaves, in the order in which they are made.
func made(n uint64) []api.Spot {
	var l []api.Spot
	for i := range n {
		s := at(0, i)
		l = append(l, s)
		for s.Index%2 == 1 {
			s = at(s.Height+1, s.Index/2)
			l = append(l, s)
		}
	}
	return l
}

// within tells whether s is one of these spots, or under one.
func within(s api.Spot, l []api.Spot) bool {
	for ; s.Height < 62; s = at(s.Height+1, s.Index/2) {
		if slices.Contains(l, s) {
			return true
		}
	}
	return slices.Contains(l, s)
}

// joins are those of a forest that is made leaf by leaf.
func joins(n, k uint64) []api.Spot {
	span, _ := shortest(n, n+k)
	old, all := made(n), made(n+k)
	var l []api.Spot
	for _, s := range all[len(old):] {
		if !within(s, span) {
			l = append(l, s)
		}
	}
	return l
}

func areSiblings(a, b api.Spot) bool {
	return a.Height == b.Height && a.Index%2 == 0 && b.Index == a.Index+1
}

// mergeFirst puts the first two siblings together, again and again; mergeLast the last two.
func mergeFirst(l []api.Spot) []api.Spot {
	l = slices.Clone(l)
	for i := 0; i+1 < len(l); i++ {
		if areSiblings(l[i], l[i+1]) {
			l = slices.Replace(l, i, i+2, at(l[i].Height+1, l[i].Index/2))
			i = -1
		}
	}
	return l
}

func mergeLast(l []api.Spot) []api.Spot {
	l = slices.Clone(l)
	for i := len(l) - 2; i >= 0; i-- {
		if areSiblings(l[i], l[i+1]) {
			l = slices.Replace(l, i, i+2, at(l[i].Height+1, l[i].Index/2))
			i = len(l) - 1
		}
	}
	return l
}

// edges are the powers of two up to most, their neighbours, and some numbers between.
func edges() []uint64 {
	l := []uint64{0, 5, 11, 300, 0x0123456789abcdef, 0x2aaaaaaaaaaaaaaa, 0x1555555555555555, 0x3ffffffffffffff5}
	for b := range 63 {
		x := uint64(1) << b
		l = append(l, x-1, x, x+1, most-x)
	}
	l = slices.DeleteFunc(l, func(x uint64) bool { return x > most })
	slices.Sort(l)
	return slices.Compact(l)
}

// wrong are spots that the forest of all leaves has not: too high, or the first ones past their heights, or such as
// begin and end at other leaves where numbers wrap round.
func wrong() []api.Spot {
	l := []api.Spot{
		at(63, 0), at(64, 0), at(255, 0), at(63, 1), at(64, 1), at(255, far), at(62, 1), at(61, 2), at(0, most), at(0, most+1),
		at(0, far), at(1, far), at(62, far), at(63, far), at(1, 1<<63), at(1, 1<<63+1), at(2, 1<<62), at(2, 1<<62+1), at(62, 4), at(61, 8),
	}
	for h := range uint8(62) {
		l = append(l, at(h, most>>h))
	}
	return l
}

// peaks are the spots of pos.Peaks.
func peaks(t *testing.T, n uint64) []api.Spot {
	t.Helper()
	var l []api.Spot
	for _, p := range pos.Peaks(n) {
		s, ok := pos.Spot(p)
		if !ok {
			t.Fatalf("no spot at the peak %d of %d leaves", p, n)
		}
		l = append(l, s)
	}
	return l
}

// place is where a spot stands.
func place(t *testing.T, s api.Spot) uint64 {
	t.Helper()
	p, ok := pos.Place(s)
	if !ok {
		t.Fatalf("no place of %v", s)
	}
	return p
}

// nodes is how many n leaves have.
func nodes(t *testing.T, n uint64) uint64 {
	t.Helper()
	m, ok := pos.Nodes(n)
	if !ok {
		t.Fatalf("no forest of %d leaves", n)
	}
	return m
}
