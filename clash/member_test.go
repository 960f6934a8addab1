package clash_test

import (
	"bytes"
	"slices"
	"testing"

	"massif/api"
	"massif/clash"
)

// two is all that Member is handed.
type two struct {
	w    int
	root api.Hash
	n, i uint64
	x    api.Hash
	p    []byte
	y    api.Hash
	q    []byte
}

func (c two) ask() (api.Clash, bool) { return clash.Member(c.w, c.root, c.n, c.i, c.x, c.p, c.y, c.q) }

// want is what Member is to say, by the words of 9.3.
func (c two) want() bool {
	return c.x != c.y && accepts(c.w, c.root, c.n, c.i, c.x, c.p) && accepts(c.w, c.root, c.n, c.i, c.y, c.q)
}

// check holds Member against them, and answers what it said.
func (c two) check(t *testing.T) bool {
	t.Helper()
	told, ok := c.ask()
	checkTold(t, c.w, told, ok, c.want())
	return ok
}

// swapped has the two leaves the other way round.
func (c two) swapped() two {
	c.x, c.p, c.y, c.q = c.y, c.q, c.x, c.p
	return c
}

// mustTell is that there is a clash, whichever of the two leaves comes first.
func (c two) mustTell(t *testing.T) {
	t.Helper()
	if !c.check(t) || !c.swapped().check(t) {
		t.Fatalf("no clash: %+v", c)
	}
}

// sizes are those of which all or some leaves are tried.
func sizes() []uint64 { return []uint64{1, 2, 3, 4, 5, 6, 7, 8, 11, 13, 16, 21, 23} }

// within are leaves of n: all, if they are few.
func within(n uint64) []uint64 {
	var l []uint64
	for i := range n {
		if n <= 8 || i%3 == 0 || i == n-1 {
			l = append(l, i)
		}
	}
	return l
}

// Promises 9.3, 9.6: two leaves with the same nodes: they part at the leaf alone, and meet at each step up to the root.
func TestMemberPartsAtTheLeaf(t *testing.T) {
	const w = 2
	for _, n := range sizes() {
		for _, i := range within(n) {
			p := forest{w, i, n}.proof(n)
			trailOf := func(k uint64) []api.Hash { return trail(w, h(k), p) }
			for _, pair := range partings(t, trailOf) {
				x, y := h(pair[0]), h(pair[1])
				two{w, bagOf(w, n, climbOf(w, x, p)), n, i, x, raw(t, p), y, raw(t, p)}.mustTell(t)
			}
		}
	}
}

// forged is a proof of which some nodes are other ones, by a number.
func forged(p api.Proof, k uint64, nodes ...int) api.Proof {
	p.Nodes = slices.Clone(p.Nodes)
	for _, at := range nodes {
		p.Nodes[at] = h(k*7919 + uint64(at))
	}
	return p
}

// checkForged looks for two leaves whose proofs part in these nodes and in no others.
func checkForged(t *testing.T, w int, p api.Proof, nodes ...int) {
	t.Helper()
	last := func(k uint64) api.Hash { return bagOf(w, p.Size, climbOf(w, h(k), forged(p, k, nodes...))) }
	unlike := func(a, b uint64) bool {
		for _, at := range nodes {
			if forged(p, a, nodes...).Nodes[at] == forged(p, b, nodes...).Nodes[at] {
				return false
			}
		}
		return true
	}
	a, b := twins(t, last, unlike)
	pa, pb := raw(t, forged(p, a, nodes...)), raw(t, forged(p, b, nodes...))
	two{w, last(a), p.Size, p.Index, h(a), pa, h(b), pb}.mustTell(t)
}

// Promises 9.3, 9.6: two leaves whose proofs part at one height of the way up, at one other peak, at all other peaks, or
// all over.
func TestMemberPartsInTheProof(t *testing.T) {
	const w = 2
	for _, n := range sizes() {
		for _, i := range within(n) {
			p := forest{w, i, n}.proof(n)
			var all []int
			for k := range p.Nodes {
				checkForged(t, w, p, k)
				all = append(all, k)
			}
			checkForged(t, w, p, all...)
			checkForged(t, w, p, all[height(i, n):]...)
			checkForged(t, w, p, all[:height(i, n)]...)
		}
	}
}

// Promises 9.3, 9.6: the leaves meet under their peak, and the other peaks in their folds, or at the root: there are two
// clashes, of which one is told.
func TestMemberPartsInTheFoldsToo(t *testing.T) {
	const w = 2
	for _, n := range []uint64{7, 11, 14, 15} {
		p := forest{w, 1, n}.proof(n)
		high := height(1, n)
		a, b := twins(t, func(k uint64) api.Hash { return ways(w, h(k), p)[high] }, always)
		others := func(k uint64) api.Proof { return forged(p, k, high, high+1) }
		c, d := twins(t, func(k uint64) api.Hash { return bagOf(w, n, climbOf(w, h(a), others(k))) }, always)
		root := bagOf(w, n, climbOf(w, h(a), others(c)))
		two{w, root, n, 1, h(a), raw(t, others(c)), h(b), raw(t, others(d))}.mustTell(t)
		two{w, root, n, 1, h(a), raw(t, others(d)), h(b), raw(t, others(d))}.mustTell(t)
		same := two{w, root, n, 1, h(a), raw(t, others(c)), h(a), raw(t, others(d))}
		if same.check(t) {
			t.Error("one leaf by two proofs is no clash of leaves")
		}
	}
}

// Promises 9.3, 9.7: of all leaves of all sizes up to some, what the words say, with many pairs that are accepted.
func TestMemberOfAllSizes(t *testing.T) {
	for _, w := range widths() {
		met := 0
		for n := range 2 * sizesOf(w) {
			for i := range n {
				p := forest{w, i, n}.proof(n)
				b := raw(t, p)
				x := h(n + 5)
				root := bagOf(w, n, climbOf(w, x, p))
				for k := range uint64(24) {
					c := two{w, root, n, i, x, b, h(k * 11), b}
					if ok := c.check(t); ok != c.swapped().check(t) {
						t.Fatalf("%v, but swapped %v: %+v", ok, !ok, c)
					} else if ok {
						met++
					}
				}
			}
		}
		if met < 20 {
			t.Errorf("with the width %d just %d are met", w, met)
		}
	}
}

// Promise 9.3: with n of MaxLeaves, and around it; 9.6 bounds the texts there too.
func TestMemberOfGreatSizes(t *testing.T) {
	const w = 2
	for _, n := range []uint64{1<<32 + 1, most - 1, most} {
		for _, i := range []uint64{0, n / 3, n - 2, n - 1} {
			p := forest{w, i, n}.proof(n)
			a, b := twins(t, func(k uint64) api.Hash { return bagOf(w, n, climbOf(w, h(k), p)) }, always)
			two{w, bagOf(w, n, climbOf(w, h(a), p)), n, i, h(a), raw(t, p), h(b), raw(t, p)}.mustTell(t)
		}
	}
}

// samples tell clashes, of a leaf of 13 that has siblings and other peaks: the trails of the two leaves meet at each step
// in its turn. Those that meet early have their clash whatever follows.
func samples(t *testing.T) []two {
	t.Helper()
	const w, n, i = 2, 13, 9
	p := forest{w, i, n}.proof(n)
	var l []two
	for _, pair := range partings(t, func(k uint64) []api.Hash { return trail(w, h(k), p) }) {
		x, y := h(pair[0]), h(pair[1])
		l = append(l, two{w, bagOf(w, n, climbOf(w, x, p)), n, i, x, raw(t, p), y, raw(t, p)})
	}
	return l
}

// Promise 9.7: one leaf twice.
func TestMemberOfOneLeaf(t *testing.T) {
	for _, c := range samples(t) {
		c.mustTell(t)
		c.y = c.x
		if c.check(t) {
			t.Error("one leaf twice")
		}
	}
}

// Promise 9.7: one leaf twice, by proofs that have unlike texts with one hash: it is not asked about those.
func TestMemberOfOneLeafWithClashes(t *testing.T) {
	const w, n, i = 1, 1<<20 - 1, 77
	p := forest{w, i, n}.proof(n)
	for k := range uint64(50) {
		root := bagOf(w, n, climbOf(w, h(k), p))
		if (two{w, root, n, i, h(k), raw(t, p), h(k), raw(t, p)}).check(t) {
			t.Fatalf("one leaf twice, %d", k)
		}
	}
}

// Promises 9.3, 9.7: something that is not accepted: the first proof or the second one by wrong bytes, a wrong size,
// index, root, leaf or width.
func TestMemberOfWhatIsNotAccepted(t *testing.T) {
	for _, c := range samples(t) {
		c.mustTell(t)
		checkNotAccepted(t, c)
		checkNotAccepted(t, c.swapped())
	}
}

func checkNotAccepted(t *testing.T, c two) {
	t.Helper()
	wrong := func(what string, turn func(*two)) {
		t.Helper()
		d := c
		turn(&d)
		if d.check(t) {
			t.Errorf("a clash with %s", what)
		}
	}
	for _, b := range spoiled(c.p) {
		wrong("another first proof", func(d *two) { d.p = b })
		wrong("another second proof", func(d *two) { d.q = b })
	}
	for _, n := range []uint64{0, 1, 12, 14, most, most + 1, far} {
		wrong("another size", func(d *two) { d.n = n })
	}
	for _, n := range []uint64{10, 12, 14, most} {
		b := raw(t, api.Proof{Size: n, Index: c.i, Nodes: hashes(3, nodesOf(c.i, n))})
		wrong("a first proof of another size", func(d *two) { d.p = b })
		wrong("a second proof of another size", func(d *two) { d.q = b })
		wrong("proofs of another size", func(d *two) { d.p, d.q = b, b })
	}
	for _, i := range []uint64{0, 8, 10, 12, 13, far} {
		wrong("another index", func(d *two) { d.i = i })
	}
	for bit := range 256 {
		wrong("another root", func(d *two) { d.root[bit/8] ^= 1 << (bit % 8) })
	}
	for _, w := range []int{-5, 0, 1, 3, 32, 99} {
		wrong("another width", func(d *two) { d.w = w })
	}
	wrong("another first leaf", func(d *two) { d.x[31] ^= 1 })
	wrong("another second leaf", func(d *two) { d.y[31] ^= 1 })
	wrong("two other leaves", func(d *two) { d.x[31], d.y[30] = d.x[31]^1, d.y[30]^1 })
}

// spoiled are bytes that are not b: it is cut off anywhere, has more behind it, or one byte turned.
func spoiled(b []byte) [][]byte {
	l := [][]byte{append(bytes.Clone(b), 0), append(bytes.Clone(b), b...)}
	for k := range b {
		l = append(l, b[:k])
		turned := bytes.Clone(b)
		turned[k] ^= 1 << (k % 8)
		l = append(l, turned)
	}
	return l
}

// Promise 9.3: with n of 0 nothing is accepted; with n of 1 the proofs have no nodes, and the leaf is the peak.
func TestMemberOfNoneAndOne(t *testing.T) {
	const w = 1
	empty := bagOf(w, 0, nil)
	for _, b := range [][]byte{nil, {77, 0, 0}, {77, 1, 0}} {
		for _, n := range []uint64{0, 1} {
			if (two{w, empty, n, 0, h(1), b, h(2), b}).check(t) {
				t.Errorf("a clash under nothing, by %x", b)
			}
		}
	}
	b := []byte{77, 1, 0}
	x, y := twins(t, func(k uint64) api.Hash { return bagOf(w, 1, []api.Hash{h(k)}) }, always)
	two{w, bagOf(w, 1, []api.Hash{h(x)}), 1, 0, h(x), b, h(y), b}.mustTell(t)
}

// Promise 9.6: what is told is told again (R4). Rule R3: what is handed in is not changed, and nothing is read or written
// behind it.
func TestMemberIsLeftAlone(t *testing.T) {
	c := samples(t)[1]
	p, q := append(bytes.Clone(c.p), 1, 2, 3), append(bytes.Clone(c.q), 4, 5, 6)
	d := c
	d.p, d.q = p[:len(c.p)], q[:len(c.q)]
	checkSame(t, d.ask)
	d.mustTell(t)
	if !bytes.Equal(p, append(bytes.Clone(c.p), 1, 2, 3)) || !bytes.Equal(q, append(bytes.Clone(c.q), 4, 5, 6)) {
		t.Error("what was handed in is changed")
	}
	d.p = p[:len(p)-1]
	if d.check(t) {
		t.Error("bytes behind a proof")
	}
}
