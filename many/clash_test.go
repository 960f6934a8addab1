package many_test

import (
	"bytes"
	"slices"
	"testing"

	"massif/api"
	"massif/clash"
	"massif/hash"
	"massif/many"
)

// two is all that Clash is handed.
type two struct {
	w     int
	root  api.Hash
	n     uint64
	index []uint64
	x     []api.Hash
	p     []byte
	y     []api.Hash
	q     []byte
}

func (c two) ask() (api.Clash, bool) {
	return many.Clash(c.w, c.root, c.n, c.index, c.x, c.p, c.y, c.q)
}

// want is what Clash is to say, by the words of 10.7.
func (c two) want() bool {
	return !slices.Equal(c.x, c.y) &&
		verifyOf(c.w, c.root, c.n, c.index, c.x, c.p) == api.OK &&
		verifyOf(c.w, c.root, c.n, c.index, c.y, c.q) == api.OK
}

// check holds Clash against them, and answers what it said.
func (c two) check(t *testing.T) bool {
	t.Helper()
	told, ok := c.ask()
	checkTold(t, c.w, told, ok, c.want())
	return ok
}

// swapped has the two lists the other way round.
func (c two) swapped() two {
	c.x, c.p, c.y, c.q = c.y, c.q, c.x, c.p
	return c
}

// mustTell is that there is a clash, whichever of the two comes first.
func (c two) mustTell(t *testing.T) {
	t.Helper()
	if !c.check(t) || !c.swapped().check(t) {
		t.Fatalf("no clash: %+v", c)
	}
}

// checkTold holds an answer against what it is to be: a clash, or nothing.
func checkTold(t *testing.T, w int, c api.Clash, ok, want bool) {
	t.Helper()
	if ok != want {
		t.Fatalf("the answer is %v, want %v", ok, want)
	}
	if !ok {
		if len(c.A) > 0 || len(c.B) > 0 {
			t.Fatalf("beside a false stand %x and %x", c.A, c.B)
		}
		return
	}
	if bytes.Equal(c.A, c.B) || hash.Sum(w, c.A) != hash.Sum(w, c.B) {
		t.Fatalf("no clash of the width %d: %x and %x", w, c.A, c.B)
	}
	if len(c.A) > 200 || len(c.B) > 200 {
		t.Fatalf("texts of %d and %d bytes", len(c.A), len(c.B))
	}
	if !clash.Holds(w, c) {
		t.Fatalf("what is told does not hold: %x and %x", c.A, c.B)
	}
}

// pair are two lists that are put to Clash, of one proof or of two.
func pair(w int, x []api.Hash, p api.Many, y []api.Hash, q api.Many) two {
	return two{w, rootOf(w, x, p), p.Size, p.Index, x, bytesOf(p), y, bytesOf(q)}
}

// trail is all hashes that hang on the j-th leaf, from the leaf itself up to its peak, in the folds, and at the root.
func trail(w int, leaves []api.Hash, p api.Many, j int) []api.Hash {
	k := knownOf(leaves, p)
	var l []api.Hash
	s := at(0, p.Index[j])
	for ; has(parent(s), p.Size); s = parent(s) {
		l = append(l, k.hash(w, s))
	}
	l = append(l, k.hash(w, s))
	peaks := k.peaks(w, p.Size)
	for from := slices.Index(peakSpots(p.Size), s); from >= 0; from-- {
		if from < len(peaks)-1 {
			l = append(l, folded(w, peaks[from:]))
		}
	}
	return append(l, bagOf(w, p.Size, peaks))
}

// meet tells where two trails become the same for good.
func meet(a, b []api.Hash) int {
	k := len(a)
	for k > 0 && a[k-1] == b[k-1] {
		k--
	}
	return k
}

// partings are pairs of numbers, one for each step of a trail but the first, whose trails meet at that step.
func partings(t *testing.T, trailOf func(k uint64) []api.Hash) [][2]uint64 {
	t.Helper()
	var trails [][]api.Hash
	met := map[api.Hash][]uint64{} // by the last step
	var pairs [][2]uint64
	left := 1
	for k := uint64(0); left > 0; k++ {
		if k == 1<<14 {
			t.Fatalf("trails do not meet: %d", pairs)
		}
		x := trailOf(k)
		if k == 0 {
			pairs, left = make([][2]uint64, len(x)), len(x)-1
		}
		root := x[len(x)-1]
		for _, old := range met[root] {
			s := meet(trails[old], x)
			if 0 < s && s < len(x) && pairs[s][1] == 0 {
				pairs[s] = [2]uint64{old, k}
				left--
			}
		}
		trails = append(trails, x)
		met[root] = append(met[root], k)
	}
	return pairs[1:]
}

// twins are two numbers of which the last step is the same, and whatever unlike asks for.
func twins(t *testing.T, last func(k uint64) api.Hash, unlike func(a, b uint64) bool) (uint64, uint64) {
	t.Helper()
	met := map[api.Hash][]uint64{}
	for k := range uint64(1 << 14) {
		r := last(k)
		for _, old := range met[r] {
			if unlike(old, k) {
				return old, k
			}
		}
		met[r] = append(met[r], k)
	}
	t.Fatal("no twins")
	return 0, 0
}

// always asks for nothing more.
func always(a, b uint64) bool { return true }

// with is a list in which one is another.
func with(l []api.Hash, j int, x api.Hash) []api.Hash {
	l = slices.Clone(l)
	l[j] = x
	return l
}

// spread are sets of the leaves of n: one, two, neighbours, the first and the last, all.
func spread(n uint64) [][]uint64 {
	l := [][]uint64{{0}, {n - 1}, {n / 2}, rising([]uint64{0, n - 1}), rising([]uint64{n / 3, n / 2}), from(n/2, n), from(0, n)}
	slices.SortFunc(l, slices.Compare[[]uint64])
	return slices.CompactFunc(l, slices.Equal[[]uint64])
}

// Promise 10.7: unlike in one leaf, with the same nodes: they meet at each step from the leaf up to the root, that is at
// each height, at the peak, in each fold, at the root.
func TestClashOfOneLeaf(t *testing.T) {
	for _, n := range []uint64{1, 2, 3, 4, 5, 7, 8, 11, 13} {
		for _, index := range spread(n) {
			p := anyProof(index, n, 500)
			leaves := hashes(900, len(index))
			for j := range index {
				trailOf := func(k uint64) []api.Hash { return trail(1, with(leaves, j, h(k)), p, j) }
				for _, x := range partings(t, trailOf) {
					pair(1, with(leaves, j, h(x[0])), p, with(leaves, j, h(x[1])), p).mustTell(t)
				}
			}
		}
	}
}

// Promise 10.7: the same with hashes of 2 bytes.
func TestClashOfTwoBytes(t *testing.T) {
	const w = 2
	for _, x := range []struct {
		index []uint64
		n     uint64
	}{{[]uint64{0}, 1}, {[]uint64{1, 2}, 3}, {[]uint64{0, 3, 4}, 7}, {[]uint64{2, 9}, 11}} {
		p := anyProof(x.index, x.n, 500)
		leaves := hashes(90000, len(x.index))
		for j := range x.index {
			trailOf := func(k uint64) []api.Hash { return trail(w, with(leaves, j, h(k)), p, j) }
			for _, x := range partings(t, trailOf) {
				pair(w, with(leaves, j, h(x[0])), p, with(leaves, j, h(x[1])), p).mustTell(t)
			}
		}
	}
}

// turnedBy are leaves of which some, told by bits, are other ones, by a number.
func turnedBy(leaves []api.Hash, some, k uint64) []api.Hash {
	leaves = slices.Clone(leaves)
	for j := range leaves {
		if some>>j&1 == 1 {
			leaves[j] = h(k<<4 + uint64(j))
		}
	}
	return leaves
}

// Promise 10.7: unlike in several leaves, in whichever, of all sets of few: they meet at the peaks, all of which are the
// same, or behind them.
func TestClashOfSeveralLeaves(t *testing.T) {
	const w = 1
	for _, n := range []uint64{1, 2, 3, 4, 5, 6, 7} {
		for _, index := range spread(n) {
			p := anyProof(index, n, 500)
			leaves := hashes(900, len(index))
			for some := uint64(1); some < 1<<len(index); some++ {
				list := func(k uint64) []api.Hash { return turnedBy(leaves, some, k) }
				peaks := func(k uint64) []api.Hash { return peaksOf(w, list(k), p) }
				last := func(k uint64) api.Hash { return rootOf(w, list(k), p) }
				a, b := twins(t, last, func(a, b uint64) bool { return !slices.Equal(peaks(a), peaks(b)) })
				pair(w, list(a), p, list(b), p).mustTell(t)
				a, b = twins(t, last, always)
				pair(w, list(a), p, list(b), p).mustTell(t)
			}
		}
	}
}

// Promise 10.7: several leaves that meet apart from one another, each under its own peak: there are several clashes, of
// which one is told; with one of them the same, there still is one.
func TestClashOfSeveralMeetings(t *testing.T) {
	const w = 1
	index := []uint64{1, 3, 4, 9, 12}
	p := anyProof(index, 15, 500)
	leaves := hashes(900, len(index))
	x, y := slices.Clone(leaves), slices.Clone(leaves)
	for j := range index {
		peaks := func(k uint64) api.Hash { return hash.Sum(32, plain(peaksOf(w, with(leaves, j, h(k)), p))) }
		a, b := twins(t, peaks, always)
		x[j], y[j] = h(a), h(b)
	}
	for some := uint64(1); some < 1<<len(index); some++ {
		a, b := slices.Clone(leaves), slices.Clone(leaves)
		for j := range index {
			if some>>j&1 == 1 {
				a[j], b[j] = x[j], y[j]
			}
		}
		// Leaves under one peak may part there again: what the words say holds in any case.
		c := pair(w, a, p, b, p)
		if got := c.check(t); !got && some&(some-1) == 0 {
			t.Fatalf("no clash with one leaf that is unlike, %b", some)
		}
		c.swapped().check(t)
	}
}

// forged is a proof of which some nodes, told by bits, are other ones, by a number.
func forged(p api.Many, some, k uint64) api.Many {
	p.Nodes = slices.Clone(p.Nodes)
	for j := range p.Nodes {
		if some>>j&1 == 1 {
			p.Nodes[j] = h(k*7919 + uint64(j))
		}
	}
	return p
}

// Promise 10.7: unlike in one leaf, and in some nodes of the proofs too, whichever.
func TestClashOfUnlikeProofs(t *testing.T) {
	const w = 1
	for _, n := range []uint64{2, 3, 5, 7, 8} {
		for _, index := range spread(n) {
			p := anyProof(index, n, 500)
			leaves := hashes(900, len(index))
			for some := uint64(1); some < 1<<len(p.Nodes); some++ {
				j := int(some) % len(index)
				list := func(k uint64) []api.Hash { return with(leaves, j, h(k)) }
				last := func(k uint64) api.Hash { return rootOf(w, list(k), forged(p, some, k)) }
				a, b := twins(t, last, always)
				pair(w, list(a), forged(p, some, a), list(b), forged(p, some, b)).mustTell(t)
			}
		}
	}
}

// Promise 10.7: of all sets of leaves of all small sizes, what the words say, with many pairs that are accepted.
func TestClashOfAllSets(t *testing.T) {
	for _, w := range []int{-7, 0, 1} {
		met := 0
		for n := range uint64(7) {
			for _, index := range sets(n) {
				p := anyProof(index, n, 500)
				b := bytesOf(p)
				x := hashes(900, len(index))
				root := rootOf(w, x, p)
				for k := range uint64(30) {
					c := two{w, root, n, index, x, b, turnedBy(x, k, k*11), b}
					if ok := c.check(t); ok != c.swapped().check(t) {
						t.Fatalf("%v, but swapped %v: %+v", ok, !ok, c)
					} else if ok {
						met++
					}
				}
			}
		}
		if met < 10 {
			t.Errorf("with the width %d just %d are met", w, met)
		}
	}
}

// Promise 10.7: with n of MaxLeaves, and around it; 9.6 bounds the texts there too.
func TestClashOfGreatSizes(t *testing.T) {
	const w = 1
	d := dice(13)
	for _, n := range []uint64{1<<32 + 1, most - 1, most} {
		for _, index := range someOf(n, &d) {
			if len(index) == 0 || len(index) > 8 {
				continue
			}
			p := anyProof(index, n, 500)
			leaves := hashes(900, len(index))
			for _, some := range []uint64{1, 1 << (len(index) - 1), far} {
				last := func(k uint64) api.Hash { return rootOf(w, turnedBy(leaves, some, k), p) }
				a, b := twins(t, last, always)
				pair(w, turnedBy(leaves, some, a), p, turnedBy(leaves, some, b), p).mustTell(t)
			}
		}
	}
}

// Promise 10.7: from a tree's own proof.
func TestClashOfTrees(t *testing.T) {
	const w, n = 1, 9
	all := hashes(300, n)
	tree := grown(t, w, all)
	for _, index := range spread(n) {
		p, e := many.Make(tree, index, n)
		if e != api.OK {
			t.Fatalf("Make(%v) is %v", index, e)
		}
		x := pick(all, index)
		met := 0
		for k := range uint64(3000) {
			y := with(x, int(k)%len(x), h(k))
			c := two{w, tree.Root(), n, index, x, raw(t, p), y, raw(t, p)}
			if c.want() {
				c.mustTell(t)
				met++
			}
		}
		if met == 0 {
			t.Errorf("nothing is met by %v", index)
		}
	}
}

// samples tell clashes, of some leaves of 13: the trails of one leaf that is unlike meet at each step in its turn.
func samples(t *testing.T) []two {
	t.Helper()
	p := anyProof([]uint64{1, 6, 9, 10}, 13, 500)
	leaves := hashes(900, 4)
	var l []two
	for _, x := range partings(t, func(k uint64) []api.Hash { return trail(2, with(leaves, 2, h(k)), p, 2) }) {
		l = append(l, pair(2, with(leaves, 2, h(x[0])), p, with(leaves, 2, h(x[1])), p))
	}
	return l
}

// Promise 10.7: one list of leaves twice.
func TestClashOfOneList(t *testing.T) {
	for _, c := range samples(t) {
		c.mustTell(t)
		c.y = slices.Clone(c.x)
		if c.check(t) {
			t.Error("one list twice")
		}
	}
}

// Promise 10.7: one list of leaves twice, by proofs that have unlike texts with one hash: it is not asked about those;
// and no leaves at all.
func TestClashOfOneListWithClashes(t *testing.T) {
	const w = 1
	for _, index := range [][]uint64{nil, {0}, {1, 2}, {3, 6}} {
		p := anyProof(index, 7, 500)
		leaves := hashes(900, len(index))
		a, b := twins(t, func(k uint64) api.Hash { return rootOf(w, leaves, forged(p, far, k)) }, always)
		c := pair(w, leaves, forged(p, far, a), slices.Clone(leaves), forged(p, far, b))
		if c.check(t) || c.swapped().check(t) {
			t.Errorf("one list twice, %v", index)
		}
	}
	b := []byte{78, 0, 0}
	if (two{w, bagOf(w, 0, nil), 0, nil, nil, b, []api.Hash{}, b}).check(t) {
		t.Error("a clash of nothing")
	}
}

// Promise 10.7: something that is not accepted: the first or the second one by wrong bytes, a wrong size, index, root,
// leaf, number of leaves or width.
func TestClashOfWhatIsNotAccepted(t *testing.T) {
	for _, c := range samples(t) {
		c.mustTell(t)
		checkNotAccepted(t, c)
		checkNotAccepted(t, c.swapped())
	}
}

func checkNotAccepted(t *testing.T, c two) {
	t.Helper()
	wrong := func(what string, turn func(*two)) {
		t.Helper()
		d := c
		turn(&d)
		if d.check(t) {
			t.Errorf("a clash with %s", what)
		}
	}
	for k := range c.p {
		wrong("a first proof that is cut off", func(d *two) { d.p = c.p[:k] })
		wrong("a second proof that is cut off", func(d *two) { d.q = c.p[:k] })
		// Bytes that are turned may be accepted, with so short hashes; then there is a clash.
		first, second := c, c
		first.p, second.q = bytes.Clone(c.p), bytes.Clone(c.q)
		first.p[k] ^= 1 << (k % 8)
		second.q[k] ^= 1 << (k % 8)
		first.check(t)
		second.check(t)
	}
	for _, b := range [][]byte{nil, append(bytes.Clone(c.p), 0), append(bytes.Clone(c.p), c.p...), bytesOf(anyProof(c.index, 14, 500)), bytesOf(anyProof(c.index[1:], 13, 500))} {
		wrong("another first proof", func(d *two) { d.p = b })
		wrong("another second proof", func(d *two) { d.q = b })
		wrong("two other proofs", func(d *two) { d.p, d.q = b, b })
	}
	for _, n := range []uint64{0, 1, 12, 14, most, most + 1, far} {
		wrong("another size", func(d *two) { d.n = n })
	}
	for _, index := range [][]uint64{nil, {1, 6, 9}, {1, 6, 9, 11}, {1, 6, 10, 9}, {1, 6, 9, 10, 11}, {1, 6, 9, 13}} {
		wrong("other indices", func(d *two) { d.index = index })
	}
	for bit := range 256 {
		wrong("another root", func(d *two) { d.root = turned(d.root, bit) })
	}
	for _, w := range []int{-5, 0, 1, 3, 32, 99} {
		wrong("another width", func(d *two) { d.w = w })
	}
	for j := range c.x {
		wrong("another first leaf", func(d *two) { d.x = with(d.x, j, turned(d.x[j], 250)) })
		wrong("another second leaf", func(d *two) { d.y = with(d.y, j, turned(d.y[j], 250)) })
		wrong("a leaf too few in the first list", func(d *two) { d.x = slices.Delete(slices.Clone(d.x), j, j+1) })
		wrong("a leaf too few in the second list", func(d *two) { d.y = slices.Delete(slices.Clone(d.y), j, j+1) })
	}
	wrong("a leaf too many in the first list", func(d *two) { d.x = append(slices.Clone(d.x), h(1)) })
	wrong("a leaf too many in the second list", func(d *two) { d.y = append(slices.Clone(d.y), h(1)) })
	wrong("no first list", func(d *two) { d.x = nil })
	wrong("no second list", func(d *two) { d.y = nil })
}

// Promises 10.7, 9.6: what is told is told again (R4), also where the first answer is written over. Rule R3: what is
// handed in is not changed, and nothing is read or written behind it.
func TestClashLeavesAlone(t *testing.T) {
	for _, c := range samples(t) {
		d := c
		d.index, d.x, d.y = behind(c.index, 1, far), behind(c.x, h(1)), behind(c.y, h(2))
		d.p, d.q = behind(c.p, 1, 2, 3), behind(c.q, 4, 5, 6)
		first, ok := d.ask()
		a, b := bytes.Clone(first.A), bytes.Clone(first.B)
		spoil(first.A)
		if !ok || !bytes.Equal(first.B, b) {
			t.Fatal("the two texts of an answer share memory")
		}
		spoil(first.B)
		if again, ok := d.ask(); !ok || !bytes.Equal(again.A, a) || !bytes.Equal(again.B, b) {
			t.Fatalf("the first answer was %x and %x, the next is %x and %x, %v", a, b, again.A, again.B, ok)
		}
		if !slices.Equal(d.index[:6], append(slices.Clone(c.index), 1, far)) || !slices.Equal(d.x[:5], append(slices.Clone(c.x), h(1))) || !slices.Equal(d.y[:5], append(slices.Clone(c.y), h(2))) {
			t.Error("the lists that were handed in are changed")
		}
		if !bytes.Equal(d.p[:len(c.p)+3], append(bytes.Clone(c.p), 1, 2, 3)) || !bytes.Equal(d.q[:len(c.q)+3], append(bytes.Clone(c.q), 4, 5, 6)) {
			t.Error("the bytes that were handed in are changed")
		}
	}
}

// spoil turns all bits of a text, its spare room's too.
func spoil(b []byte) {
	b = b[:cap(b)]
	for k := range b {
		b[k] ^= 255
	}
}
