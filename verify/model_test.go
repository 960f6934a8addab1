package verify_test

import (
	"math/bits"
	"slices"
	"testing"

	"massif/api"
	"massif/hash"
	"massif/mmr"
	"massif/proof"
)

const (
	most = uint64(api.MaxLeaves)
	far  = ^uint64(0)
	some = 70 // every size up to this one is tried
)

// widths are some, of which the outer ones count as 1 and as 32.
func widths() []int { return []int{-7, 0, 1, 2, 5, 31, 32, 33, 1 << 40} }

// h is a hash that is told by a number; it has bytes behind every width but the greatest.
func h(n uint64) api.Hash {
	return api.Hash{0: byte(n), 1: byte(n >> 8), 2: byte(n >> 16), 9: byte(n >> 56), 30: 7, 31: ^byte(n)}
}

// hashes are n of them, from h(first) on.
func hashes(first uint64, n int) []api.Hash {
	var l []api.Hash
	for i := range uint64(n) {
		l = append(l, h(first+i))
	}
	return l
}

// at is a spot.
func at(h int, k uint64) api.Spot { return api.Spot{Height: uint8(h), Index: k} }

// peakSpots are the spots of the peaks of n leaves: one for each set bit, the highest first.
func peakSpots(n uint64) []api.Spot {
	var l []api.Spot
	for h := 62; h >= 0; h-- {
		if n>>h&1 == 1 {
			l = append(l, at(h, n>>h-1))
		}
	}
	return l
}

// pathSpots are the siblings on the way up from the leaf i, as long as n leaves have their parent.
func pathSpots(i, n uint64) []api.Spot {
	var l []api.Spot
	for high := 0; i>>high/2 < n>>high/2; high++ {
		l = append(l, at(high, i>>high^1))
	}
	return l
}

// spanSpots are the spots of Span(m, n): from m on always the highest that begins there and fits.
func spanSpots(m, n uint64) []api.Spot {
	var l []api.Spot
	for m < n {
		h := 0
		for m%(2<<h) == 0 && 2<<h <= n-m {
			h++
		}
		l = append(l, at(h, m>>h))
		m += 1 << h
	}
	return l
}

// memberSpots are the spots of the nodes of a leaf's proof.
func memberSpots(i, n uint64) []api.Spot {
	path := pathSpots(i, n)
	l := slices.Clone(path)
	for _, s := range peakSpots(n) {
		if s != at(len(path), i>>len(path)) {
			l = append(l, s)
		}
	}
	return l
}

// prefixSpots are the spots of the nodes of a prefix proof.
func prefixSpots(m, n uint64) []api.Spot { return append(peakSpots(m), spanSpots(m, n)...) }

// climbOf is what Climb is to tell of a right number of nodes, by the words of 8.1: one hash is held.
func climbOf(w int, leaf api.Hash, p api.Proof) []api.Hash {
	held := leaf
	path := pathSpots(p.Index, p.Size)
	for k, s := range path {
		if s.Index%2 == 0 {
			held = hash.Node(w, p.Nodes[k], held)
		} else {
			held = hash.Node(w, held, p.Nodes[k])
		}
	}
	var l []api.Hash
	behind := p.Nodes[len(path):]
	for _, s := range peakSpots(p.Size) {
		if s == at(len(path), p.Index>>len(path)) {
			l = append(l, held)
		} else {
			l, behind = append(l, behind[0]), behind[1:]
		}
	}
	return l
}

// knot is a spot with its hash.
type knot struct {
	spot api.Spot
	hash api.Hash
}

// reachOf is what Reach is to tell of a right number of nodes, by the words of 8.3: two neighbours at a time are put
// together, those that d picks.
func reachOf(w int, p api.Prefix, d *dice) ([]api.Hash, []api.Hash) {
	var l []knot
	for k, s := range prefixSpots(p.From, p.Size) {
		l = append(l, knot{s, p.Nodes[k]})
	}
	for {
		pairs := siblings(l)
		if len(pairs) == 0 {
			break
		}
		k := pairs[d.next(uint64(len(pairs)))]
		parent := knot{at(int(l[k].spot.Height)+1, l[k].spot.Index/2), hash.Node(w, l[k].hash, l[k+1].hash)}
		l = slices.Replace(l, k, k+2, parent)
	}
	var second []api.Hash
	for _, x := range l {
		second = append(second, x.hash)
	}
	return slices.Clone(p.Nodes[:bits.OnesCount64(p.From)]), second
}

// siblings tell where two neighbours are a left and a right kid of one parent.
func siblings(l []knot) []int {
	var pairs []int
	for k := range len(l) - 1 {
		a, b := l[k].spot, l[k+1].spot
		if a.Height == b.Height && a.Index%2 == 0 && b.Index == a.Index+1 {
			pairs = append(pairs, k)
		}
	}
	return pairs
}

// bagOf is the root over peaks, by the words of 6.1.
func bagOf(w int, n uint64, peaks []api.Hash) api.Hash { return hash.Root(w, n, folded(w, peaks)) }

func folded(w int, peaks []api.Hash) api.Hash {
	switch len(peaks) {
	case 0:
		return api.Hash{}
	case 1:
		return peaks[0]
	}
	return hash.Fold(w, peaks[0], folded(w, peaks[1:]))
}

// memberOf is what Member is to tell, by the words of 8.2.
func memberOf(w int, root api.Hash, n, i uint64, leaf api.Hash, b []byte) api.Errno {
	p, e := proof.Decode(b)
	switch {
	case e != api.OK:
		return e
	case p.Size != n:
		return api.ErrSize
	case p.Index != i:
		return api.ErrIndex
	case bagOf(w, n, climbOf(w, leaf, p)) != root:
		return api.ErrRoot
	}
	return api.OK
}

// prefixOf is what Prefix is to tell, by the words of 8.4.
func prefixOf(w int, m uint64, r1 api.Hash, n uint64, r2 api.Hash, b []byte) api.Errno {
	p, e := proof.DecodePrefix(b)
	if e != api.OK {
		return e
	}
	if p.From != m || p.Size != n {
		return api.ErrSize
	}
	var d dice
	first, second := reachOf(w, p, &d)
	if bagOf(w, m, first) != r1 || bagOf(w, n, second) != r2 {
		return api.ErrRoot
	}
	return api.OK
}

// rows are the nodes of the forest over these leaves, by their heights.
func rows(w int, leaves []api.Hash) [][]api.Hash {
	all := [][]api.Hash{leaves}
	for len(all[len(all)-1]) > 1 {
		low := all[len(all)-1]
		var next []api.Hash
		for k := 0; 2*k+1 < len(low); k++ {
			next = append(next, hash.Node(w, low[2*k], low[2*k+1]))
		}
		all = append(all, next)
	}
	return all
}

// pick is the hashes of these spots.
func pick(all [][]api.Hash, spots []api.Spot) []api.Hash {
	var l []api.Hash
	for _, s := range spots {
		l = append(l, all[s.Height][s.Index])
	}
	return l
}

// grown is a tree with these leaves.
func grown(t *testing.T, w int, leaves []api.Hash) *mmr.Tree {
	t.Helper()
	x, e := mmr.New(w, 4)
	if e != api.OK {
		t.Fatalf("mmr.New(%d, 4) is %v", w, e)
	}
	for _, l := range leaves {
		x.Append(l)
	}
	return x
}

// raw is a proof in bytes.
func raw(t *testing.T, p api.Proof) []byte {
	t.Helper()
	b, e := proof.Encode(p)
	if e != api.OK {
		t.Fatalf("Encode{%d, %d, %d nodes} is %v", p.Size, p.Index, len(p.Nodes), e)
	}
	return b
}

// rawPrefix is a prefix proof in bytes.
func rawPrefix(t *testing.T, p api.Prefix) []byte {
	t.Helper()
	b, e := proof.EncodePrefix(p)
	if e != api.OK {
		t.Fatalf("EncodePrefix{%d, %d, %d nodes} is %v", p.From, p.Size, len(p.Nodes), e)
	}
	return b
}

// great are sizes up to MaxLeaves: powers of two, their neighbours, and some between.
func great() []uint64 {
	l := []uint64{300, 0x0123456789abcdef, 0x2aaaaaaaaaaaaaaa, 0x1555555555555555, 0x3ffffffffffffff5}
	for b := 7; b < 62; b += 5 {
		l = append(l, 1<<b-1, 1<<b, 1<<b+1, most-1<<b)
	}
	return append(l, most-2, most-1, most)
}

// within are numbers below n: the ends, the middle, and where peaks begin.
func within(n uint64) []uint64 {
	l := []uint64{0, 1, n / 3, n / 2, n - 2, n - 1}
	for _, s := range peakSpots(n) {
		l = append(l, s.Index<<s.Height, (s.Index<<s.Height)-1)
	}
	l = slices.DeleteFunc(l, func(x uint64) bool { return x >= n })
	slices.Sort(l)
	return slices.Compact(l)
}

// beyond are numbers that are no sizes.
func beyond() []uint64 {
	return []uint64{most + 1, most + 2, 2*most - 1, 2 * most, 1<<63 - 1, 1 << 63, 1<<63 + 1, far - 1, far}
}

// turned is a hash with one bit turned.
func turned(x api.Hash, bit int) api.Hash {
	x[bit/8] ^= 1 << (bit % 8)
	return x
}

// dice are numbers that are drawn by a rule, the same in every run.
type dice uint64

func (d *dice) next(n uint64) uint64 {
	*d = *d*6364136223846793005 + 1442695040888963407
	return uint64(*d>>33) % n
}
