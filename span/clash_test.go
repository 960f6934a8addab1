package span_test

import (
	"bytes"
	"slices"
	"testing"

	"massif/api"
	"massif/clash"
	"massif/hash"
	"massif/span"
)

// two is all that Clash is handed: two claims of one span under one head, with their bytes.
type two struct {
	claim // its leaves are the first ones
	p     []byte
	y     []api.Hash
	q     []byte
}

func (c two) ask() (api.Clash, bool) {
	return span.Clash(c.w, c.root, c.n, c.from, c.to, c.leaves, c.p, c.y, c.q)
}

// swapped has the two lists the other way round.
func (c two) swapped() two {
	c.leaves, c.p, c.y, c.q = c.y, c.q, c.leaves, c.p
	return c
}

// want is what Clash is to say, by the words of 20.6.
func (c two) want() bool {
	return !slices.Equal(c.leaves, c.y) && verifyOf(c.claim, c.p) == api.OK && verifyOf(c.swapped().claim, c.q) == api.OK
}

// check holds Clash against them, and answers what it said.
func (c two) check(t *testing.T) bool {
	t.Helper()
	told, ok := c.ask()
	checkTold(t, c.w, told, ok, c.want())
	return ok
}

// mustTell is that there is a clash, whichever of the two comes first.
func (c two) mustTell(t *testing.T) {
	t.Helper()
	if !c.check(t) || !c.swapped().check(t) {
		t.Fatalf("no clash: %+v", c)
	}
}

// checkTold holds an answer against what it is to be: a clash, or nothing.
func checkTold(t *testing.T, w int, c api.Clash, ok, want bool) {
	t.Helper()
	if ok != want {
		t.Fatalf("the answer is %v, want %v", ok, want)
	}
	if !ok {
		if len(c.A) > 0 || len(c.B) > 0 {
			t.Fatalf("beside a false stand %x and %x", c.A, c.B)
		}
		return
	}
	if bytes.Equal(c.A, c.B) || hash.Sum(w, c.A) != hash.Sum(w, c.B) {
		t.Fatalf("no clash of the width %d: %x and %x", w, c.A, c.B)
	}
	if len(c.A) > 200 || len(c.B) > 200 {
		t.Fatalf("texts of %d and %d bytes", len(c.A), len(c.B))
	}
	if !clash.Holds(w, c) {
		t.Fatalf("what is told does not hold: %x and %x", c.A, c.B)
	}
}

// pair are two lists that are put to Clash, of one proof or of two.
func pair(w int, x []api.Hash, p api.Reach, y []api.Hash, q api.Reach) two {
	return two{claimOf(w, rootOf(w, x, p), reachOf(p), x), bytesOf(p), y, bytesOf(q)}
}

// trail is all hashes that hang on the j-th leaf, from the leaf itself up to its peak, in the folds, and at the root.
func trail(w int, leaves []api.Hash, p api.Reach, j int) []api.Hash {
	k := knownOf(leaves, p)
	var l []api.Hash
	s := at(0, p.From+uint64(j))
	for ; has(parent(s), p.Size); s = parent(s) {
		l = append(l, k.hash(w, s, nobody))
	}
	l = append(l, k.hash(w, s, nobody))
	peaks := k.peaks(w, p.Size, nobody)
	for from := slices.Index(peakSpots(p.Size), s); from >= 0; from-- {
		if from < len(peaks)-1 {
			l = append(l, folded(w, peaks[from:], nobody))
		}
	}
	return append(l, bagOf(w, p.Size, peaks, nobody))
}

// meet tells where two trails become the same for good.
func meet(a, b []api.Hash) int {
	k := len(a)
	for k > 0 && a[k-1] == b[k-1] {
		k--
	}
	return k
}

// partings are pairs of numbers, one for each step of a trail but the first, whose trails meet at that step.
func partings(t *testing.T, trailOf func(k uint64) []api.Hash) [][2]uint64 {
	t.Helper()
	var trails [][]api.Hash
	met := map[api.Hash][]uint64{} // by the last step
	var pairs [][2]uint64
	left := 1
	for k := uint64(0); left > 0; k++ {
		if k == 1<<14 {
			t.Fatalf("trails do not meet: %d", pairs)
		}
		x := trailOf(k)
		if k == 0 {
			pairs, left = make([][2]uint64, len(x)), len(x)-1
		}
		root := x[len(x)-1]
		for _, old := range met[root] {
			s := meet(trails[old], x)
			if 0 < s && s < len(x) && pairs[s][1] == 0 {
				pairs[s] = [2]uint64{old, k}
				left--
			}
		}
		trails = append(trails, x)
		met[root] = append(met[root], k)
	}
	return pairs[1:]
}

// twins are two numbers of which the last step is the same, and whatever unlike asks for.
func twins(t *testing.T, last func(k uint64) api.Hash, unlike func(a, b uint64) bool) (uint64, uint64) {
	t.Helper()
	met := map[api.Hash][]uint64{}
	for k := range uint64(1 << 14) {
		r := last(k)
		for _, old := range met[r] {
			if unlike(old, k) {
				return old, k
			}
		}
		met[r] = append(met[r], k)
	}
	t.Fatal("no twins")
	return 0, 0
}

// always asks for nothing more.
func always(a, b uint64) bool { return true }

// spread are spans of some of the leaves of n: one leaf, neighbours, the outer ones, the inner ones, all.
func spread(n uint64) []reach {
	var l []reach
	for _, r := range []reach{{0, 1, n}, {n - 1, n, n}, {n / 2, n/2 + 1, n}, {n / 3, n/2 + 1, n}, {n / 2, n, n}, {0, n/2 + 1, n}, {1, n - 1, n}, {0, n, n}} {
		if r.from < r.to && !slices.Contains(l, r) {
			l = append(l, r)
		}
	}
	return l
}

// Promise 20.6: unlike in one leaf, with the same nodes: they meet at each step from the leaf up to the root, that is at
// each height, at the peak, in each fold, at the root.
func TestClashOfOneLeaf(t *testing.T) {
	for _, n := range []uint64{1, 2, 3, 4, 5, 7, 8, 11, 13} {
		for _, r := range spread(n) {
			p := anyProof(r, 500)
			leaves := hashes(900, r.long())
			for j := range leaves {
				trailOf := func(k uint64) []api.Hash { return trail(1, with(leaves, j, h(k)), p, j) }
				for _, x := range partings(t, trailOf) {
					pair(1, with(leaves, j, h(x[0])), p, with(leaves, j, h(x[1])), p).mustTell(t)
				}
			}
		}
	}
}

// Promise 20.6: the same with hashes of 2 bytes.
func TestClashOfTwoBytes(t *testing.T) {
	const w = 2
	for _, r := range []reach{{0, 1, 1}, {1, 3, 3}, {2, 5, 7}, {8, 10, 11}} {
		p := anyProof(r, 500)
		leaves := hashes(90000, r.long())
		for j := range leaves {
			trailOf := func(k uint64) []api.Hash { return trail(w, with(leaves, j, h(k)), p, j) }
			for _, x := range partings(t, trailOf) {
				pair(w, with(leaves, j, h(x[0])), p, with(leaves, j, h(x[1])), p).mustTell(t)
			}
		}
	}
}

// turnedBy are leaves of which some, told by bits, are other ones, by a number.
func turnedBy(leaves []api.Hash, some, k uint64) []api.Hash {
	leaves = slices.Clone(leaves)
	for j := range leaves {
		if some>>j&1 == 1 {
			leaves[j] = h(k<<4 + uint64(j))
		}
	}
	return leaves
}

// Promise 20.6: unlike in several leaves, in whichever: they meet at the peaks, all of which are the same, or behind them.
func TestClashOfSeveralLeaves(t *testing.T) {
	const w = 1
	for _, n := range []uint64{1, 2, 3, 4, 5, 6, 7} {
		for _, r := range spread(n) {
			p := anyProof(r, 500)
			leaves := hashes(900, r.long())
			for some := uint64(1); some < 1<<r.long(); some++ {
				list := func(k uint64) []api.Hash { return turnedBy(leaves, some, k) }
				peaks := func(k uint64) []api.Hash { return peaksOf(w, list(k), p) }
				last := func(k uint64) api.Hash { return rootOf(w, list(k), p) }
				a, b := twins(t, last, func(a, b uint64) bool { return !slices.Equal(peaks(a), peaks(b)) })
				pair(w, list(a), p, list(b), p).mustTell(t)
				a, b = twins(t, last, always)
				pair(w, list(a), p, list(b), p).mustTell(t)
			}
		}
	}
}

// Promise 20.6: several leaves that meet apart from one another, under peaks of their own: there are several clashes, of
// which one is told; with one of them the same, there still is one.
func TestClashOfSeveralMeetings(t *testing.T) {
	const w = 1
	p := anyProof(reach{5, 15, 15}, 500)
	leaves := hashes(900, 10)
	x, y := slices.Clone(leaves), slices.Clone(leaves)
	apart := []int{0, 4, 8, 9} // the leaves 5, 9, 13 and 14
	for _, j := range apart {
		peaks := func(k uint64) api.Hash { return hash.Sum(32, plain(peaksOf(w, with(leaves, j, h(k)), p))) }
		if j == 9 { // that one is a peak itself
			peaks = func(k uint64) api.Hash { return rootOf(w, with(leaves, j, h(k)), p) }
		}
		a, b := twins(t, peaks, always)
		x[j], y[j] = h(a), h(b)
	}
	for some := uint64(1); some < 1<<len(apart); some++ {
		a, b := slices.Clone(leaves), slices.Clone(leaves)
		for bit, j := range apart {
			if some>>bit&1 == 1 {
				a[j], b[j] = x[j], y[j]
			}
		}
		// With several of them the roots may part again: what the words say holds in any case.
		c := pair(w, a, p, b, p)
		if got := c.check(t); !got && some < 8 {
			t.Fatalf("no clash, %b", some)
		}
		c.swapped().check(t)
	}
}

// forged is a proof of which some nodes, told by bits, are other ones, by a number.
func forged(p api.Reach, some, k uint64) api.Reach {
	p.Nodes = slices.Clone(p.Nodes)
	for j := range p.Nodes {
		if some>>j&1 == 1 {
			p.Nodes[j] = h(k*7919 + uint64(j))
		}
	}
	return p
}

// Promise 20.6: unlike in one leaf, and in some nodes of the proofs too, whichever.
func TestClashOfUnlikeProofs(t *testing.T) {
	const w = 1
	for _, n := range []uint64{2, 3, 5, 7, 8, 15} {
		for _, r := range spread(n) {
			p := anyProof(r, 500)
			leaves := hashes(900, r.long())
			for some := uint64(1); some < 1<<len(p.Nodes); some++ {
				j := int(some) % r.long()
				list := func(k uint64) []api.Hash { return with(leaves, j, h(k)) }
				last := func(k uint64) api.Hash { return rootOf(w, list(k), forged(p, some, k)) }
				a, b := twins(t, last, always)
				pair(w, list(a), forged(p, some, a), list(b), forged(p, some, b)).mustTell(t)
			}
		}
	}
}

// Promise 20.6: of every span of every small size, what the words say, with many pairs that are accepted.
func TestClashOfAllSpans(t *testing.T) {
	for _, w := range []int{-7, 0, 1} {
		met := 0
		for _, r := range spansUpTo(11) {
			p := anyProof(r, 500)
			b := bytesOf(p)
			x := hashes(900, r.long())
			root := rootOf(w, x, p)
			for k := range uint64(30) {
				c := two{claimOf(w, root, r, x), b, turnedBy(x, k, k*11), b}
				if ok := c.check(t); ok != c.swapped().check(t) {
					t.Fatalf("%v, but swapped %v: %+v", ok, !ok, c)
				} else if ok {
					met++
				}
			}
		}
		if met < 10 {
			t.Errorf("with the width %d just %d are met", w, met)
		}
	}
}

// Promise 20.6: with n of MaxLeaves, and around it; 9.6 bounds the texts there too.
func TestClashOfGreatSizes(t *testing.T) {
	const w = 1
	for _, n := range []uint64{1<<32 + 1, 0x2aaaaaaaaaaaaaaa, most - 1, most} {
		for k, r := range shortOf(n) {
			if r.long() == 0 || k%3 > 0 {
				continue
			}
			p := anyProof(r, 500)
			leaves := hashes(900, r.long())
			for _, some := range []uint64{1, 1 << (r.long() - 1), far} {
				last := func(k uint64) api.Hash { return rootOf(w, turnedBy(leaves, some, k), p) }
				a, b := twins(t, last, always)
				pair(w, turnedBy(leaves, some, a), p, turnedBy(leaves, some, b), p).mustTell(t)
			}
		}
	}
}

// Promise 20.6: from a tree's own proof.
func TestClashOfTrees(t *testing.T) {
	const w, n = 1, 9
	all := hashes(300, n)
	tree := grown(t, w, all)
	for _, r := range spread(n) {
		b := raw(t, mustMake(t, tree, r))
		x := r.of(all)
		met := 0
		for k := range uint64(3000) {
			y := with(x, int(k)%len(x), h(k))
			c := two{claimOf(w, tree.Root(), r, x), b, y, b}
			if c.want() {
				c.mustTell(t)
				met++
			}
		}
		if met == 0 {
			t.Errorf("nothing is met by %v", r)
		}
	}
}

// samples tell clashes, of some leaves of 13: the trails of one leaf that is unlike meet at each step in its turn.
func samples(t *testing.T) []two {
	t.Helper()
	p := anyProof(reach{6, 10, 13}, 500)
	leaves := hashes(900, 4)
	var l []two
	for _, x := range partings(t, func(k uint64) []api.Hash { return trail(2, with(leaves, 2, h(k)), p, 2) }) {
		l = append(l, pair(2, with(leaves, 2, h(x[0])), p, with(leaves, 2, h(x[1])), p))
	}
	return l
}

// Promise 20.6: one list of leaves twice.
func TestClashOfOneList(t *testing.T) {
	for _, c := range samples(t) {
		c.mustTell(t)
		c.y = slices.Clone(c.leaves)
		if c.check(t) {
			t.Error("one list twice")
		}
	}
}

// Promise 20.6: one list of leaves twice, by proofs that have unlike texts with one hash: it is not asked about those;
// and no leaves at all.
func TestClashOfOneListWithClashes(t *testing.T) {
	const w = 1
	for _, r := range []reach{{0, 0, 7}, {3, 3, 7}, {0, 1, 7}, {1, 3, 7}, {3, 7, 7}} {
		p := anyProof(r, 500)
		leaves := hashes(900, r.long())
		a, b := twins(t, func(k uint64) api.Hash { return rootOf(w, leaves, forged(p, far, k)) }, always)
		c := pair(w, leaves, forged(p, far, a), slices.Clone(leaves), forged(p, far, b))
		if verifyOf(c.claim, c.p) != api.OK || verifyOf(c.claim, c.q) != api.OK {
			t.Fatalf("not accepted, %v", r)
		}
		if c.check(t) || c.swapped().check(t) {
			t.Errorf("one list twice, %v", r)
		}
	}
	b := []byte{83, 0, 0, 0}
	if (two{claimOf(w, bagOf(w, 0, nil, nobody), reach{}, nil), b, []api.Hash{}, b}).check(t) {
		t.Error("a clash of nothing")
	}
}

// Promise 20.6: something that is not accepted: the first or the second one by wrong bytes, a wrong size, span, root,
// leaf, number of leaves or width.
func TestClashOfWhatIsNotAccepted(t *testing.T) {
	for _, c := range samples(t) {
		c.mustTell(t)
		for _, d := range []two{c, c.swapped()} {
			checkWrongBytes(t, d)
			checkWrongHeads(t, d)
			checkWrongLeaves(t, d)
		}
	}
}

// wrong is that there is no clash of two of which something is turned.
func (c two) wrong(t *testing.T, what string, turn func(*two)) {
	t.Helper()
	d := c
	turn(&d)
	if d.check(t) {
		t.Errorf("a clash with %s", what)
	}
}

func checkWrongBytes(t *testing.T, c two) {
	t.Helper()
	for k := range c.p {
		c.wrong(t, "a first proof that is cut off", func(d *two) { d.p = c.p[:k] })
		c.wrong(t, "a second proof that is cut off", func(d *two) { d.q = c.p[:k] })
		// Bytes that are turned may be accepted, with so short hashes; then there is a clash.
		first, second := c, c
		first.p, second.q = bytes.Clone(c.p), bytes.Clone(c.q)
		first.p[k] ^= 1 << (k % 8)
		second.q[k] ^= 1 << (k % 8)
		first.check(t)
		second.check(t)
	}
	for _, b := range [][]byte{nil, append(bytes.Clone(c.p), 0), append(bytes.Clone(c.p), c.p...), bytesOf(anyProof(reach{c.from, c.to, 14}, 500)), bytesOf(anyProof(reach{c.from + 1, c.to, 13}, 500)), bytesOf(anyProof(reach{c.from + 1, c.to + 1, 13}, 500))} {
		c.wrong(t, "another first proof", func(d *two) { d.p = b })
		c.wrong(t, "another second proof", func(d *two) { d.q = b })
		c.wrong(t, "two other proofs", func(d *two) { d.p, d.q = b, b })
	}
}

func checkWrongHeads(t *testing.T, c two) {
	t.Helper()
	for _, n := range []uint64{0, 1, 12, 14, most, most + 1, far} {
		c.wrong(t, "another size", func(d *two) { d.n = n })
	}
	for _, r := range []reach{{0, 0, 0}, {6, 9, 0}, {6, 11, 0}, {5, 9, 0}, {7, 11, 0}, {10, 6, 0}, {6, far, 0}, {far, 10, 0}} {
		c.wrong(t, "another span", func(d *two) { d.from, d.to = r.from, r.to })
	}
	for bit := range 256 {
		c.wrong(t, "another root", func(d *two) { d.root = turned(d.root, bit) })
	}
	for _, w := range []int{-5, 0, 1, 3, 32, 99} {
		c.wrong(t, "another width", func(d *two) { d.w = w })
	}
}

func checkWrongLeaves(t *testing.T, c two) {
	t.Helper()
	for j := range c.leaves {
		c.wrong(t, "another first leaf", func(d *two) { d.leaves = with(d.leaves, j, turned(d.leaves[j], 250)) })
		c.wrong(t, "another second leaf", func(d *two) { d.y = with(d.y, j, turned(d.y[j], 250)) })
		c.wrong(t, "a leaf too few in the first list", func(d *two) { d.leaves = slices.Delete(slices.Clone(d.leaves), j, j+1) })
		c.wrong(t, "a leaf too few in the second list", func(d *two) { d.y = slices.Delete(slices.Clone(d.y), j, j+1) })
	}
	c.wrong(t, "a leaf too many in the first list", func(d *two) { d.leaves = append(slices.Clone(d.leaves), h(1)) })
	c.wrong(t, "a leaf too many in the second list", func(d *two) { d.y = append(slices.Clone(d.y), h(1)) })
	c.wrong(t, "no first list", func(d *two) { d.leaves = nil })
	c.wrong(t, "no second list", func(d *two) { d.y = nil })
	c.wrong(t, "no list", func(d *two) { d.leaves, d.y = nil, nil })
}

// Promises 20.6, 9.6: what is told is told again (R4), also where the first answer is written over. Rule R3: what is
// handed in is not changed, and nothing is read or written behind it.
func TestClashLeavesAlone(t *testing.T) {
	for _, c := range samples(t) {
		d := c
		d.leaves, d.y = behind(c.leaves, h(1)), behind(c.y, h(2))
		d.p, d.q = behind(c.p, 1, 2, 3), behind(c.q, 4, 5, 6)
		first, ok := d.ask()
		a, b := bytes.Clone(first.A), bytes.Clone(first.B)
		spoil(first.A)
		if !ok || !bytes.Equal(first.B, b) {
			t.Fatal("the two texts of an answer share memory")
		}
		spoil(first.B)
		if again, ok := d.ask(); !ok || !bytes.Equal(again.A, a) || !bytes.Equal(again.B, b) {
			t.Fatalf("the first answer was %x and %x, the next is %x and %x, %v", a, b, again.A, again.B, ok)
		}
		if !slices.Equal(d.leaves[:5], append(slices.Clone(c.leaves), h(1))) || !slices.Equal(d.y[:5], append(slices.Clone(c.y), h(2))) {
			t.Error("the lists that were handed in are changed")
		}
		if !bytes.Equal(d.p[:len(c.p)+3], append(bytes.Clone(c.p), 1, 2, 3)) || !bytes.Equal(d.q[:len(c.q)+3], append(bytes.Clone(c.q), 4, 5, 6)) {
			t.Error("the bytes that were handed in are changed")
		}
	}
}

// spoil turns all bits of a text, its spare room's too.
func spoil(b []byte) {
	b = b[:cap(b)]
	for k := range b {
		b[k] ^= 255
	}
}
