package clash_test

import (
	"bytes"
	"math/bits"
	"slices"
	"testing"

	"massif/api"
	"massif/clash"
)

// roots is all that Fork is handed.
type roots struct {
	w    int
	m    uint64
	a, b api.Hash
	n    uint64
	r    api.Hash
	p, q []byte
}

func (c roots) ask() (api.Clash, bool) {
	return clash.Fork(c.w, c.m, c.a, c.b, c.n, c.r, c.p, c.q)
}

// want is what Fork is to say, by the words of 9.5.
func (c roots) want() bool {
	return c.a != c.b && begins(c.w, c.m, c.a, c.n, c.r, c.p) && begins(c.w, c.m, c.b, c.n, c.r, c.q)
}

// check holds Fork against them, and answers what it said.
func (c roots) check(t *testing.T) bool {
	t.Helper()
	told, ok := c.ask()
	checkTold(t, c.w, told, ok, c.want())
	return ok
}

// swapped has the two roots the other way round.
func (c roots) swapped() roots {
	c.a, c.b, c.p, c.q = c.b, c.a, c.q, c.p
	return c
}

// mustTell is that there is a clash, whichever of the two roots comes first.
func (c roots) mustTell(t *testing.T) {
	t.Helper()
	if !c.check(t) || !c.swapped().check(t) {
		t.Fatalf("no clash: %+v", c)
	}
}

// first is the root of the earlier size that follows from a prefix proof, second that of the later one.
func first(w int, p api.Prefix) api.Hash {
	l, _ := reachOf(w, p)
	return bagOf(w, p.From, l)
}

func second(w int, p api.Prefix) api.Hash {
	_, l := reachOf(w, p)
	return bagOf(w, p.Size, l)
}

// fork is two prefix proofs with one later root.
func fork(t *testing.T, w int, p, q api.Prefix) roots {
	t.Helper()
	return roots{w, p.From, first(w, p), first(w, q), p.Size, second(w, p), rawPrefix(t, p), rawPrefix(t, q)}
}

// prefixes are the proofs of sizes whose nodes are told by a number: those in turns are other ones for each.
func prefixes(m, n uint64, turns ...int) func(k uint64) api.Prefix {
	return func(k uint64) api.Prefix {
		p := api.Prefix{From: m, Size: n, Nodes: hashes(40, prefixNodes(m, n))}
		for _, at := range turns {
			p.Nodes[at] = h(k*7919 + uint64(at))
		}
		return p
	}
}

// Promises 9.5, 9.6: the proofs part in one earlier peak alone, and meet at each step up to the later root: at each node
// between it and the later peak, in the folds, at the root. Where they meet below it, the two are one proof.
func TestForkPartsInAnEarlierPeak(t *testing.T) {
	const w = 2
	for _, s := range spans() {
		m, n := s[0], s[1]
		if m == n {
			continue
		}
		for _, i := range under(m) {
			f := forest{w, i, m}
			later := f.proof(n)
			trailOf := func(k uint64) []api.Hash { return trail(w, h(k), later) }
			for below, pair := range partings(t, trailOf) {
				c := fork(t, w, f.prefix(n, h(pair[0])), f.prefix(n, h(pair[1])))
				if below >= height(i, m) {
					c.mustTell(t)
				} else if c.check(t) {
					t.Fatalf("one proof of %d, %d twice", m, n)
				}
			}
		}
	}
}

// Promises 9.5, 9.6: the proofs part in all earlier peaks; in these and in the nodes behind them; in one peak and one of
// the nodes behind.
func TestForkPartsInManyNodes(t *testing.T) {
	const w = 2
	for _, s := range spans() {
		m, n := s[0], s[1]
		if m == n {
			continue
		}
		var all []int
		for k := range prefixNodes(m, n) {
			all = append(all, k)
		}
		ones := bits.OnesCount64(m)
		turns := [][]int{all[:ones], all}
		for _, k := range all[ones:] {
			turns = append(turns, []int{0, k}, []int{ones - 1, k})
		}
		for _, l := range turns {
			of := prefixes(m, n, l...)
			unlike := func(a, b uint64) bool { return first(w, of(a)) != first(w, of(b)) }
			a, b := twins(t, func(k uint64) api.Hash { return second(w, of(k)) }, unlike)
			fork(t, w, of(a), of(b)).mustTell(t)
		}
	}
}

// Promises 9.5, 9.7: where the proofs part in the nodes behind the earlier peaks alone, the two roots are the same.
func TestForkWithOneRoot(t *testing.T) {
	const w = 2
	for _, s := range [][2]uint64{{0, 3}, {1, 2}, {3, 7}, {4, 13}} {
		m, n := s[0], s[1]
		of := prefixes(m, n, bits.OnesCount64(m))
		a, b := twins(t, func(k uint64) api.Hash { return second(w, of(k)) }, always)
		if fork(t, w, of(a), of(b)).check(t) {
			t.Errorf("one root of %d is a fork of %d", m, n)
		}
	}
}

// Promises 9.5, 9.7: of all sizes up to some, what the words say, with many that are accepted; sizes of none and equal
// ones have no forks.
func TestForkOfAllSizes(t *testing.T) {
	for _, w := range widths() {
		for n := range sizesOf(w) {
			for m := uint64(0); m <= n; m++ {
				ones := bits.OnesCount64(m)
				var turns []int
				for k := range prefixNodes(m, n) {
					if k < ones || k%2 == 0 {
						turns = append(turns, k)
					}
				}
				of := prefixes(m, n, turns...)
				met := 0
				byRoot := map[api.Hash]api.Prefix{}
				for k := range uint64(60) {
					p := of(k)
					q, ok := byRoot[second(w, p)]
					if ok && fork(t, w, p, q).check(t) {
						met++
					}
					byRoot[second(w, p)] = p
					if fork(t, w, p, of(k/2)).check(t) {
						met++
					}
				}
				if (met > 0) != (0 < m && m < n) {
					t.Fatalf("with the width %d, of %d and %d, %d are met", w, m, n, met)
				}
			}
		}
	}
}

// Promise 9.5: with sizes of MaxLeaves, and around it.
func TestForkOfGreatSizes(t *testing.T) {
	const w = 2
	for _, s := range [][2]uint64{{1, most}, {most - 1, most}, {most / 2, most - 1}, {1<<32 + 5, 1<<33 + 3}} {
		m, n := s[0], s[1]
		for _, k := range parts(bits.OnesCount64(m)) {
			of := prefixes(m, n, k)
			unlike := func(a, b uint64) bool { return first(w, of(a)) != first(w, of(b)) }
			a, b := twins(t, func(k uint64) api.Hash { return second(w, of(k)) }, unlike)
			fork(t, w, of(a), of(b)).mustTell(t)
		}
	}
}

// splits tell clashes, of 11 and of 13 leaves: the trails of one earlier peak meet at each step up to the later root.
func splits(t *testing.T) []roots {
	t.Helper()
	const w, i, m, n = 2, 10, 11, 13 // the leaf is a peak
	f := forest{w, i, m}
	p := f.proof(n)
	var l []roots
	for _, pair := range partings(t, func(k uint64) []api.Hash { return trail(w, h(k), p) }) {
		l = append(l, fork(t, w, f.prefix(n, h(pair[0])), f.prefix(n, h(pair[1]))))
	}
	return l
}

// Promises 9.5, 9.7: one root twice; something that is not accepted: each of the proofs in its turn, by wrong bytes, a
// wrong size, a wrong root.
func TestForkOfWhatIsNotAccepted(t *testing.T) {
	for _, c := range splits(t) {
		c.mustTell(t)
		checkForkNotAccepted(t, c)
		checkForkNotAccepted(t, c.swapped())
	}
}

func checkForkNotAccepted(t *testing.T, c roots) {
	t.Helper()
	wrong := func(what string, turn func(*roots)) {
		t.Helper()
		d := c
		turn(&d)
		if d.check(t) {
			t.Errorf("a clash with %s", what)
		}
	}
	for _, b := range spoiled(c.p) {
		wrong("another first proof", func(d *roots) { d.p = b })
	}
	for _, b := range spoiled(c.q) {
		wrong("another second proof", func(d *roots) { d.q = b })
	}
	for _, n := range []uint64{0, 1, 10, 12, 14, 16, most, most + 1, far} {
		wrong("another earlier size", func(d *roots) { d.m = n })
		wrong("another later size", func(d *roots) { d.n = n })
	}
	for bit := range 256 {
		wrong("another first root", func(d *roots) { d.a[bit/8] ^= 1 << (bit % 8) })
		wrong("another second root", func(d *roots) { d.b[bit/8] ^= 1 << (bit % 8) })
		wrong("another later root", func(d *roots) { d.r[bit/8] ^= 1 << (bit % 8) })
	}
	for _, w := range []int{-5, 0, 1, 3, 32, 99} {
		wrong("another width", func(d *roots) { d.w = w })
	}
	wrong("the proofs swapped", func(d *roots) { d.p, d.q = d.q, d.p })
	wrong("one proof twice", func(d *roots) { d.q = d.p })
	wrong("one root twice", func(d *roots) { d.b = d.a })
	wrong("one root and proof twice", func(d *roots) { d.b, d.q = d.a, d.p })
	wrong("the other root and proof twice", func(d *roots) { d.a, d.p = d.b, d.q })
	wrong("the heads the other way round", func(d *roots) { d.m, d.n = d.n, d.m })
	wrong("no bytes", func(d *roots) { d.p, d.q = nil, nil })
}

// Promise 9.7: one root twice, by a proof that has unlike texts with one hash: it is not asked about those.
func TestForkOfOneRootWithClashes(t *testing.T) {
	const w, m, n = 1, 1<<20 - 1, 1<<21 - 1
	of := prefixes(m, n, 0, 5)
	for k := range uint64(50) {
		if fork(t, w, of(k), of(k)).check(t) {
			t.Fatalf("one root twice, %d", k)
		}
	}
}

// Promise 9.6: what is told is told again (R4). Rule R3: what is handed in is not changed, and nothing is read or written
// behind it.
func TestForkIsLeftAlone(t *testing.T) {
	c := splits(t)[1]
	long := [][]byte{append(bytes.Clone(c.p), 1, 2, 3), append(bytes.Clone(c.q), 4, 5, 6)}
	before := [][]byte{bytes.Clone(long[0]), bytes.Clone(long[1])}
	d := c
	d.p, d.q = long[0][:len(c.p)], long[1][:len(c.q)]
	checkSame(t, d.ask)
	d.mustTell(t)
	if !slices.EqualFunc(long, before, bytes.Equal) {
		t.Error("what was handed in is changed")
	}
}
