package clash_test

import (
	"bytes"
	"math/bits"
	"slices"
	"testing"

	"massif/api"
	"massif/clash"
	"massif/hash"
	"massif/proof"
)

const (
	most = uint64(api.MaxLeaves)
	far  = ^uint64(0)
)

// widths are some with which texts clash soon, and some that count as 1.
func widths() []int { return []int{-7, 0, 1} }

// sizesOf is how many sizes are tried with a width.
func sizesOf(w int) uint64 {
	if w == 1 {
		return 18
	}
	return 7
}

// h is a hash that is told by a number; it has bytes behind every width but the greatest.
func h(n uint64) api.Hash {
	return api.Hash{0: byte(n), 1: byte(n >> 8), 2: byte(n >> 16), 9: byte(n >> 56), 30: 7, 31: ^byte(n)}
}

// hashes are n of them, from h(first) on.
func hashes(first uint64, n int) []api.Hash {
	var l []api.Hash
	for i := range uint64(n) {
		l = append(l, h(first+i))
	}
	return l
}

// at is a spot.
func at(h int, k uint64) api.Spot { return api.Spot{Height: uint8(h), Index: k} }

// peakSpots are the spots of the peaks of n leaves: one for each set bit, the highest first.
func peakSpots(n uint64) []api.Spot {
	var l []api.Spot
	for h := 62; h >= 0; h-- {
		if n>>h&1 == 1 {
			l = append(l, at(h, n>>h-1))
		}
	}
	return l
}

// height is how many siblings the leaf i has on its way up, as long as n leaves have the parent.
func height(i, n uint64) int {
	high := 0
	for i>>high/2 < n>>high/2 {
		high++
	}
	return high
}

// over is which of the peaks of n leaves stands over the leaf i.
func over(i, n uint64) int {
	high := height(i, n)
	return slices.Index(peakSpots(n), at(high, i>>high))
}

// spanSpots are the spots of Span(m, n): from m on always the highest that begins there and fits.
func spanSpots(m, n uint64) []api.Spot {
	var l []api.Spot
	for m < n {
		h := 0
		for m%(2<<h) == 0 && 2<<h <= n-m {
			h++
		}
		l = append(l, at(h, m>>h))
		m += 1 << h
	}
	return l
}

// nodesOf is how many nodes a leaf's proof has.
func nodesOf(i, n uint64) int { return height(i, n) + bits.OnesCount64(n) - 1 }

// prefixNodes is how many nodes a prefix proof has.
func prefixNodes(m, n uint64) int { return bits.OnesCount64(m) + len(spanSpots(m, n)) }

// ways are the hashes that are held on the way of a leaf up to its peak, by the words of 8.1.
func ways(w int, leaf api.Hash, p api.Proof) []api.Hash {
	held := []api.Hash{leaf}
	for k := range height(p.Index, p.Size) {
		l, r := held[k], p.Nodes[k]
		if p.Index>>k%2 == 1 {
			l, r = r, l
		}
		held = append(held, hash.Node(w, l, r))
	}
	return held
}

// climbOf is the peaks that follow from a leaf and its proof, by the words of 8.1.
func climbOf(w int, leaf api.Hash, p api.Proof) []api.Hash {
	held := ways(w, leaf, p)
	behind := slices.Clone(p.Nodes[len(held)-1:])
	return slices.Insert(behind, over(p.Index, p.Size), held[len(held)-1])
}

// knot is a spot with its hash.
type knot struct {
	spot api.Spot
	hash api.Hash
}

// reachOf is the two lists of peaks that follow from a prefix proof, by the words of 8.3.
func reachOf(w int, p api.Prefix) ([]api.Hash, []api.Hash) {
	var l []knot
	for k, s := range append(peakSpots(p.From), spanSpots(p.From, p.Size)...) {
		l = append(l, knot{s, p.Nodes[k]})
	}
	for k := 0; k+1 < len(l); k++ {
		a, b := l[k].spot, l[k+1].spot
		if a.Height == b.Height && a.Index%2 == 0 && b.Index == a.Index+1 {
			parent := knot{at(int(a.Height)+1, a.Index/2), hash.Node(w, l[k].hash, l[k+1].hash)}
			l = slices.Replace(l, k, k+2, parent)
			k = -1 // what stands now beside the parent may be its sibling
		}
	}
	var second []api.Hash
	for _, x := range l {
		second = append(second, x.hash)
	}
	return slices.Clone(p.Nodes[:bits.OnesCount64(p.From)]), second
}

// bagOf is the root over peaks, by the words of 6.1.
func bagOf(w int, n uint64, peaks []api.Hash) api.Hash { return hash.Root(w, n, folded(w, peaks)) }

func folded(w int, peaks []api.Hash) api.Hash {
	switch len(peaks) {
	case 0:
		return api.Hash{}
	case 1:
		return peaks[0]
	}
	return hash.Fold(w, peaks[0], folded(w, peaks[1:]))
}

// accepts tells whether a leaf is accepted, by the words of 8.2.
func accepts(w int, root api.Hash, n, i uint64, leaf api.Hash, b []byte) bool {
	p, e := proof.Decode(b)
	return e == api.OK && p.Size == n && p.Index == i && bagOf(w, n, climbOf(w, leaf, p)) == root
}

// begins tells whether a head is accepted as a prefix of another one, by the words of 8.4.
func begins(w int, m uint64, r1 api.Hash, n uint64, r2 api.Hash, b []byte) bool {
	p, e := proof.DecodePrefix(b)
	if e != api.OK || p.From != m || p.Size != n {
		return false
	}
	first, second := reachOf(w, p)
	return bagOf(w, m, first) == r1 && bagOf(w, n, second) == r2
}

// folds are the hashes that hang on the peak k: those over the peaks from k on, from k - 1 on, .., and the root.
func folds(w int, n uint64, peaks []api.Hash, k int) []api.Hash {
	var l []api.Hash
	for ; k >= 0; k-- {
		if k < len(peaks)-1 {
			l = append(l, folded(w, peaks[k:]))
		}
	}
	return append(l, bagOf(w, n, peaks))
}

// trail is all hashes that hang on a leaf, from the leaf itself up to the root.
func trail(w int, leaf api.Hash, p api.Proof) []api.Hash {
	return append(ways(w, leaf, p), folds(w, p.Size, climbOf(w, leaf, p), over(p.Index, p.Size))...)
}

// meet tells where two trails become the same for good.
func meet(a, b []api.Hash) int {
	k := len(a)
	for k > 0 && a[k-1] == b[k-1] {
		k--
	}
	return k
}

// partings are pairs of numbers, one for each step of a trail but the first, whose trails meet at that step.
func partings(t *testing.T, trailOf func(k uint64) []api.Hash) [][2]uint64 {
	t.Helper()
	steps := len(trailOf(0))
	pairs := make([][2]uint64, steps)
	left := steps - 1
	met := map[api.Hash][]uint64{} // by the last step
	for k := uint64(0); left > 0; k++ {
		if k == 1<<14 {
			t.Fatalf("trails of %d steps do not meet: %d", steps, pairs)
		}
		x := trailOf(k)
		for _, old := range met[x[steps-1]] {
			s := meet(trailOf(old), x)
			if 0 < s && s < steps && pairs[s][1] == 0 {
				pairs[s] = [2]uint64{old, k}
				left--
			}
		}
		met[x[steps-1]] = append(met[x[steps-1]], k)
	}
	return pairs[1:]
}

// twins are two numbers of which the last step is the same, and whatever unlike asks for.
func twins(t *testing.T, last func(k uint64) api.Hash, unlike func(a, b uint64) bool) (uint64, uint64) {
	t.Helper()
	met := map[api.Hash][]uint64{}
	for k := range uint64(1 << 14) {
		r := last(k)
		for _, old := range met[r] {
			if unlike(old, k) {
				return old, k
			}
		}
		met[r] = append(met[r], k)
	}
	t.Fatal("no twins")
	return 0, 0
}

// always asks for nothing more.
func always(a, b uint64) bool { return true }

// checkTold holds an answer against what it is to be: a clash, or nothing.
func checkTold(t *testing.T, w int, c api.Clash, ok, want bool) {
	t.Helper()
	if ok != want {
		t.Fatalf("the answer is %v, want %v", ok, want)
	}
	if !ok {
		if len(c.A) > 0 || len(c.B) > 0 {
			t.Fatalf("beside a false stand %x and %x", c.A, c.B)
		}
		return
	}
	if bytes.Equal(c.A, c.B) || hash.Sum(w, c.A) != hash.Sum(w, c.B) {
		t.Fatalf("no clash of the width %d: %x and %x", w, c.A, c.B)
	}
	if len(c.A) > 200 || len(c.B) > 200 {
		t.Fatalf("texts of %d and %d bytes", len(c.A), len(c.B))
	}
	if !clash.Holds(w, c) {
		t.Fatalf("what is told does not hold: %x and %x", c.A, c.B)
	}
}

// checkSame asks twice, writes over the first answer between, and holds the two against each other.
func checkSame(t *testing.T, ask func() (api.Clash, bool)) {
	t.Helper()
	c, ok := ask()
	a, b := bytes.Clone(c.A), bytes.Clone(c.B)
	spoil(c.A)
	if !bytes.Equal(c.B, b) {
		t.Fatal("the two texts of an answer share memory")
	}
	spoil(c.B)
	d, again := ask()
	if again != ok || !bytes.Equal(d.A, a) || !bytes.Equal(d.B, b) {
		t.Fatalf("the first answer was %x and %x, %v, the next is %x and %x, %v", a, b, ok, d.A, d.B, again)
	}
}

// spoil turns all bits of a text, its spare room's too.
func spoil(b []byte) {
	b = b[:cap(b)]
	for k := range b {
		b[k] ^= 255
	}
}

// raw is a proof in bytes.
func raw(t *testing.T, p api.Proof) []byte {
	t.Helper()
	b, e := proof.Encode(p)
	if e != api.OK {
		t.Fatalf("Encode{%d, %d, %d nodes} is %v", p.Size, p.Index, len(p.Nodes), e)
	}
	return b
}

// rawPrefix is a prefix proof in bytes.
func rawPrefix(t *testing.T, p api.Prefix) []byte {
	t.Helper()
	b, e := proof.EncodePrefix(p)
	if e != api.OK {
		t.Fatalf("EncodePrefix{%d, %d, %d nodes} is %v", p.From, p.Size, len(p.Nodes), e)
	}
	return b
}

// forest has nodes that are told by their spots alone, but those that lie over the leaf i, or over leaves on both
// sides of m: these follow from what is under them.
type forest struct {
	w    int
	i, m uint64
}

// node is the hash of a spot that does not lie over i.
func (f forest) node(s api.Spot) api.Hash {
	if s.Index<<s.Height < f.m && f.m < (s.Index+1)<<s.Height {
		low := int(s.Height) - 1
		return hash.Node(f.w, f.node(at(low, 2*s.Index)), f.node(at(low, 2*s.Index+1)))
	}
	return h(uint64(s.Height)<<56 ^ s.Index*2654435761 ^ 0x5a5a)
}

// proof is that of i, of n leaves.
func (f forest) proof(n uint64) api.Proof {
	p := api.Proof{Size: n, Index: f.i}
	high := height(f.i, n)
	for k := range high {
		p.Nodes = append(p.Nodes, f.node(at(k, f.i>>k^1)))
	}
	for _, s := range peakSpots(n) {
		if s != at(high, f.i>>high) {
			p.Nodes = append(p.Nodes, f.node(s))
		}
	}
	return p
}

// root is the one over n leaves, where the leaf i has this hash.
func (f forest) root(n uint64, leaf api.Hash) api.Hash {
	return bagOf(f.w, n, climbOf(f.w, leaf, f.proof(n)))
}

// prefix is the proof that n leaves begin like the first m, where the leaf i has this hash.
func (f forest) prefix(n uint64, leaf api.Hash) api.Prefix {
	p := api.Prefix{From: f.m, Size: n, Nodes: climbOf(f.w, leaf, f.proof(f.m))}
	for _, s := range spanSpots(f.m, n) {
		p.Nodes = append(p.Nodes, f.node(s))
	}
	return p
}
