package part_test

import (
	"math/bits"
	"slices"
	"testing"

	"massif/api"
	"massif/mmr"
	"massif/part"
)

const (
	most = uint64(api.MaxLeaves)
	far  = ^uint64(0)
)

// h is a hash that is told by a number, each by another one; it has bytes behind every width but the greatest.
func h(n uint64) api.Hash {
	x := api.Hash{30: 7, 31: ^byte(n)}
	for k := range 8 {
		x[3*k] = byte(n >> (8 * k))
	}
	return x
}

// hashes are n of them, from h(first) on.
func hashes(first uint64, n int) []api.Hash {
	var l []api.Hash
	for i := range uint64(n) {
		l = append(l, h(first+i))
	}
	return l
}

// turned is a hash with one bit turned.
func turned(x api.Hash, bit uint64) api.Hash {
	x[bit/8%32] ^= 1 << (bit % 8)
	return x
}

// with is a list in which one is another.
func with(l []api.Hash, j int, x api.Hash) []api.Hash {
	l = slices.Clone(l)
	l[j] = x
	return l
}

// at is a spot.
func at(h int, k uint64) api.Spot { return api.Spot{Height: uint8(h), Index: k} }

// place is where a spot stands: behind all that was made ahead of its last leaf, and as many nodes up as it is high.
func place(s api.Spot) uint64 {
	last := (s.Index+1)<<s.Height - 1
	return 2*last - uint64(bits.OnesCount64(last)) + uint64(s.Height)
}

// peakSpots are the spots of the peaks of n leaves: one for each set bit, the highest first.
func peakSpots(n uint64) []api.Spot {
	var l []api.Spot
	for h := 62; h >= 0; h-- {
		if n>>h&1 == 1 {
			l = append(l, at(h, n>>h-1))
		}
	}
	return l
}

// over is which of the peaks stands over the leaf i, counted from 0, and how high it is.
func over(i, n uint64) (int, int) {
	for k, s := range peakSpots(n) {
		if i>>s.Height == s.Index {
			return k, int(s.Height)
		}
	}
	return -1, -1
}

// tells is what a source tells of each place.
type tells func(p uint64) (api.Hash, api.Errno)

// query is that one of the two was asked for a place.
type query struct {
	who   byte
	place uint64
}

// both are the queries of a first, then b, for each of these places.
func both(places ...uint64) []query {
	var l []query
	for _, p := range places {
		l = append(l, query{'a', p}, query{'b', p})
	}
	return l
}

// teller is a source that writes down what it is asked, in a list that the two share.
type teller struct {
	who   byte
	asked *[]query
	tells tells
}

func (s teller) Node(p uint64) (api.Hash, api.Errno) {
	*s.asked = append(*s.asked, query{s.who, p})
	return s.tells(p)
}

// outcome is what First tells, and what the two are asked on the way.
type outcome struct {
	api.Parting
	e     api.Errno
	asked []query
}

// ask is First's outcome, of two sources that tell this.
func ask(a, b tells, n uint64) outcome {
	var o outcome
	o.Parting, o.e = part.First(teller{'a', &o.asked, a}, teller{'b', &o.asked, b}, n)
	return o
}

// model finds out what First is to tell, by the words of 21.1, from spots.
type model struct {
	a, b  tells
	asked []query
	count int
}

// told is what both have told of a spot, or the error of the one that refused it.
type told struct {
	x, y api.Hash
	e    api.Errno
}

func (m *model) told(s api.Spot) told {
	p := place(s)
	m.count++
	m.asked = append(m.asked, query{'a', p})
	x, e := m.a(p)
	if e != api.OK {
		return told{e: e}
	}
	m.asked = append(m.asked, query{'b', p})
	y, e := m.b(p)
	if e != api.OK {
		return told{e: e}
	}
	return told{x: x, y: y}
}

func (m *model) refuses(e api.Errno) outcome { return outcome{e: e, asked: m.asked} }

// down goes on from a spot of which unlike hashes were told.
func (m *model) down(s api.Spot, t told) outcome {
	if s.Height == 0 {
		return outcome{api.Parting{Index: s.Index, A: t.x, B: t.y, Asked: m.count}, api.OK, m.asked}
	}
	left, right := at(int(s.Height)-1, 2*s.Index), at(int(s.Height)-1, 2*s.Index+1)
	t = m.told(left)
	if t.e != api.OK {
		return m.refuses(t.e)
	}
	if t.x != t.y {
		return m.down(left, t)
	}
	t = m.told(right)
	if t.e != api.OK {
		return m.refuses(t.e)
	}
	if t.x == t.y {
		return m.refuses(api.ErrNode)
	}
	return m.down(right, t)
}

// firstOf is what First is to tell.
func firstOf(a, b tells, n uint64) outcome {
	if n > most {
		return outcome{e: api.ErrSize}
	}
	m := &model{a: a, b: b}
	for _, s := range peakSpots(n) {
		t := m.told(s)
		if t.e != api.OK {
			return m.refuses(t.e)
		}
		if t.x != t.y {
			return m.down(s, t)
		}
	}
	return m.refuses(api.ErrSame)
}

// same fails, if an outcome is another one than it is to be.
func same(t *testing.T, n uint64, got, want outcome) {
	t.Helper()
	if got.Parting != want.Parting || got.e != want.e {
		t.Fatalf("First of %d is %v, %v, want %v, %v", n, got.Parting, got.e, want.Parting, want.e)
	}
	if !slices.Equal(got.asked, want.asked) {
		t.Fatalf("First of %d asked for %v, want %v", n, got.asked, want.asked)
	}
}

// check holds what First tells of two sources, and what it asks them, against the model, and 21.4's bound.
func check(t *testing.T, a, b tells, n uint64) outcome {
	t.Helper()
	got := ask(a, b, n)
	same(t, n, got, firstOf(a, b, n))
	if m := part.Most(n); got.Asked > m || len(got.asked) > 2*m {
		t.Fatalf("First of %d asked for %d places, that are %d in all, more than Most, %d", n, got.Asked, len(got.asked), m)
	}
	return got
}

// plain tells a hash of each place, refusing none.
func plain(p uint64) (api.Hash, api.Errno) { return h(p), api.OK }

// unlikeAt tells what plain tells, but at some places.
func unlikeAt(places map[uint64]bool) tells {
	return func(p uint64) (api.Hash, api.Errno) {
		if places[p] {
			return turned(h(p), p), api.OK
		}
		return h(p), api.OK
	}
}

// refusing tells what another one tells, but with an error at one place.
func refusing(of tells, at uint64, e api.Errno) tells {
	return func(p uint64) (api.Hash, api.Errno) {
		x, was := of(p)
		if p == at {
			return x, e
		}
		return x, was
	}
}

// way is the places of the leaf i, of its parent, and so on up to its peak: of those that are low high or higher.
func way(i, n uint64, low int) map[uint64]bool {
	places := map[uint64]bool{}
	_, high := over(i, n)
	for h := low; h <= high; h++ {
		places[place(at(h, i>>h))] = true
	}
	return places
}

// askedOnWay is how many places are asked for, where two part on the way to the leaf i alone: each peak up to the one
// over it, then one for each step to the left, two for each step to the right.
func askedOnWay(i, n uint64) int {
	k, high := over(i, n)
	right := bits.OnesCount64(i & (1<<high - 1))
	return k + 1 + high + right
}

// great are sizes up to MaxLeaves: powers of two, their neighbours, and some between.
func great() []uint64 {
	l := []uint64{300, 0x0123456789abcdef, 0x2aaaaaaaaaaaaaaa, 0x1555555555555555, 0x3ffffffffffffff5}
	for b := 7; b < 62; b += 5 {
		l = append(l, 1<<b-1, 1<<b, 1<<b+1, most-1<<b)
	}
	return append(l, most-2, most-1, most)
}

// beyond are numbers that are no sizes.
func beyond() []uint64 {
	return []uint64{most + 1, most + 2, 2*most - 1, 2 * most, 1<<63 - 1, 1 << 63, 1<<63 + 1, far - 1, far}
}

// leavesOf are leaves of n: the outer ones, some between, and the first and the last one under each peak.
func leavesOf(n uint64) []uint64 {
	l := []uint64{0, 1, n / 3, n / 2, n - 2, n - 1}
	for _, s := range peakSpots(n) {
		l = append(l, s.Index<<s.Height, (s.Index+1)<<s.Height-1)
	}
	slices.Sort(l)
	return slices.Compact(slices.DeleteFunc(l, func(i uint64) bool { return i >= n }))
}

// grown is a tree with these leaves.
func grown(t *testing.T, w int, leaves []api.Hash) *mmr.Tree {
	t.Helper()
	x, e := mmr.New(w, 4)
	if e != api.OK {
		t.Fatalf("mmr.New(%d, 4) is %v", w, e)
	}
	for _, l := range leaves {
		x.Append(l)
	}
	return x
}

// dice are numbers that are drawn by a rule, the same in every run.
type dice uint64

func (d *dice) next(n uint64) uint64 {
	*d = *d*6364136223846793005 + 1442695040888963407
	return uint64(*d>>33) % n
}
