package clash_test

import (
	"bytes"
	"slices"
	"testing"

	"massif/api"
	"massif/clash"
)

// heads is all that Across is handed.
type heads struct {
	w      int
	i, m   uint64
	r1, x  api.Hash
	p      []byte
	n      uint64
	r2, y  api.Hash
	q      []byte
	prefix []byte
}

func (c heads) ask() (api.Clash, bool) {
	return clash.Across(c.w, c.i, c.m, c.r1, c.x, c.p, c.n, c.r2, c.y, c.q, c.prefix)
}

// want is what Across is to say, by the words of 9.4.
func (c heads) want() bool {
	return c.x != c.y &&
		accepts(c.w, c.r1, c.m, c.i, c.x, c.p) &&
		accepts(c.w, c.r2, c.n, c.i, c.y, c.q) &&
		begins(c.w, c.m, c.r1, c.n, c.r2, c.prefix)
}

// check holds Across against them, and answers what it said.
func (c heads) check(t *testing.T) bool {
	t.Helper()
	told, ok := c.ask()
	checkTold(t, c.w, told, ok, c.want())
	return ok
}

// mustTell is that there is a clash.
func (c heads) mustTell(t *testing.T) {
	t.Helper()
	if !c.check(t) {
		t.Fatalf("no clash: %+v", c)
	}
}

// honest is what the forest tells of both heads, where the leaf of the earlier one is x, of the later one y, and the
// prefix is that of z.
func honest(t *testing.T, f forest, n uint64, x, y, z api.Hash) heads {
	t.Helper()
	return heads{
		w: f.w, i: f.i, m: f.m, r1: f.root(f.m, x), x: x, p: raw(t, f.proof(f.m)),
		n: n, r2: f.root(n, y), y: y, q: raw(t, f.proof(n)),
		prefix: rawPrefix(t, f.prefix(n, z)),
	}
}

// The model's proofs are those of one forest: where there is one leaf, all of them are accepted.
func TestModelOfHeads(t *testing.T) {
	const w = 2
	for n := uint64(1); n < 24; n++ {
		for m := uint64(1); m <= n; m++ {
			for i := range m {
				c := honest(t, forest{w, i, m}, n, h(7), h(7), h(7))
				early, late := accepts(w, c.r1, m, i, c.x, c.p), accepts(w, c.r2, n, i, c.y, c.q)
				if !early || !late || !begins(w, m, c.r1, n, c.r2, c.prefix) {
					t.Fatalf("the leaf %d of %d, %d is not accepted", i, m, n)
				}
				if c.check(t) {
					t.Fatalf("one leaf of %d, %d twice", m, n)
				}
			}
		}
	}
}

// under are leaves of m, one below each of its peaks, not always the first one.
func under(m uint64) []uint64 {
	var l []uint64
	for _, s := range peakSpots(m) {
		from := s.Index << s.Height
		l = append(l, from+m%(1<<s.Height))
	}
	return l
}

// spans are pairs of sizes, the equal ones too.
func spans() [][2]uint64 {
	var l [][2]uint64
	for _, n := range []uint64{1, 2, 3, 4, 6, 7, 8, 11, 13, 16, 22} {
		for m := uint64(1); m <= n; m++ {
			if n <= 8 || m%3 == 1 || m == n {
				l = append(l, [2]uint64{m, n})
			}
		}
	}
	return l
}

// Promises 9.4, 9.6: the later proof parts from the earlier one and the prefix, and meets them at each step on the way up
// to the later root: below the earlier peak, between it and the later one, in the folds, at the root.
func TestAcrossPartsBelowTheLaterHead(t *testing.T) {
	const w = 2
	for _, s := range spans() {
		m, n := s[0], s[1]
		for _, i := range under(m) {
			f := forest{w, i, m}
			p := f.proof(n)
			trailOf := func(k uint64) []api.Hash { return trail(w, h(k), p) }
			for _, pair := range partings(t, trailOf) {
				x, y := h(pair[0]), h(pair[1])
				honest(t, f, n, x, y, x).mustTell(t)
				honest(t, f, n, y, x, y).mustTell(t)
			}
		}
	}
}

// Promises 9.4, 9.6: the earlier proof parts from the later one and the prefix, and meets them at each step on the way up
// to the earlier root.
func TestAcrossPartsBelowTheEarlierHead(t *testing.T) {
	const w = 2
	for _, s := range spans() {
		m, n := s[0], s[1]
		for _, i := range under(m) {
			f := forest{w, i, m}
			p := f.proof(m)
			trailOf := func(k uint64) []api.Hash { return trail(w, h(k), p) }
			for _, pair := range partings(t, trailOf) {
				x, y := h(pair[0]), h(pair[1])
				honest(t, f, n, x, y, y).mustTell(t)
				honest(t, f, n, y, x, x).mustTell(t)
			}
		}
	}
}

// Promises 9.4, 9.6: the later proof and the prefix have other nodes for what lies behind the earlier leaves, and for the
// earlier peaks that do not stand over the leaf.
func TestAcrossPartsBesideTheWay(t *testing.T) {
	const w = 2
	for _, s := range [][2]uint64{{3, 4}, {5, 7}, {5, 13}, {6, 8}, {7, 23}, {11, 16}} {
		m, n := s[0], s[1]
		for _, i := range under(m) {
			f := forest{w, i, m}
			x := h(99)
			p := f.proof(n)
			var all []int
			for k := range p.Nodes {
				all = append(all, k)
			}
			root := f.root(n, x)
			for k := uint64(1); ; k++ { // y by nodes that are all other ones, up to the same root
				if k == 1<<20 {
					t.Fatalf("no other proof of %d, %d, %d", i, m, n)
				}
				q := forged(p, k, all...)
				if bagOf(w, n, climbOf(w, h(k+100), q)) != root {
					continue
				}
				c := honest(t, f, n, x, x, x)
				c.y, c.q = h(k+100), raw(t, q)
				c.mustTell(t)
				break
			}
		}
	}
}

// Promises 9.4, 9.7: of all sizes up to some, what the words say, with many that are accepted.
func TestAcrossOfAllSizes(t *testing.T) {
	for _, w := range widths() {
		met := 0
		for n := range sizesOf(w) {
			for m := uint64(1); m <= n; m++ {
				for i := n % 2; i < m; i += 2 {
					f := forest{w, i, m}
					c := honest(t, f, n, h(n), h(n), h(n))
					for k := range uint64(48) {
						c.y = h(k * 13)
						if c.check(t) {
							met++
						}
					}
				}
			}
		}
		if met < 20 {
			t.Errorf("with the width %d just %d are met", w, met)
		}
	}
}

// Promise 9.4: with sizes of MaxLeaves, and around it.
func TestAcrossOfGreatSizes(t *testing.T) {
	const w = 2
	for _, s := range [][2]uint64{{1, most}, {most - 1, most}, {most / 2, most - 1}, {1<<32 + 5, 1<<33 + 3}, {most, most}} {
		m, n := s[0], s[1]
		for _, i := range []uint64{0, m / 3, m - 1} {
			f := forest{w, i, m}
			p := f.proof(n)
			a, b := twins(t, func(k uint64) api.Hash { return bagOf(w, n, climbOf(w, h(k), p)) }, always)
			honest(t, f, n, h(a), h(b), h(a)).mustTell(t)
			p = f.proof(m)
			a, b = twins(t, func(k uint64) api.Hash { return bagOf(w, m, climbOf(w, h(k), p)) }, always)
			honest(t, f, n, h(a), h(b), h(b)).mustTell(t)
		}
	}
}

// wide tell clashes, of a leaf of 11 and of 13: the trails of the two leaves meet at each step below the later head, and
// at each one below the earlier head.
func wide(t *testing.T) []heads {
	t.Helper()
	const w, i, m, n = 2, 9, 11, 13
	f := forest{w, i, m}
	var l []heads
	for _, size := range []uint64{m, n} {
		p := f.proof(size)
		for _, pair := range partings(t, func(k uint64) []api.Hash { return trail(w, h(k), p) }) {
			x, y := h(pair[0]), h(pair[1])
			if size == m {
				l = append(l, honest(t, f, n, x, y, y))
			} else {
				l = append(l, honest(t, f, n, x, y, x))
			}
		}
	}
	return l
}

// Promises 9.4, 9.7: one leaf twice; something that is not accepted: each of the three proofs in its turn, by wrong
// bytes, a wrong size, a wrong index, a wrong root.
func TestAcrossOfWhatIsNotAccepted(t *testing.T) {
	for _, c := range wide(t) {
		c.mustTell(t)
		checkHeadsNotAccepted(t, c)
	}
}

func checkHeadsNotAccepted(t *testing.T, c heads) {
	t.Helper()
	wrong := func(what string, turn func(*heads)) {
		t.Helper()
		d := c
		turn(&d)
		if d.check(t) {
			t.Errorf("a clash with %s", what)
		}
	}
	for _, b := range spoiled(c.p) {
		wrong("another earlier proof", func(d *heads) { d.p = b })
	}
	for _, b := range spoiled(c.q) {
		wrong("another later proof", func(d *heads) { d.q = b })
	}
	for _, b := range spoiled(c.prefix) {
		wrong("another prefix", func(d *heads) { d.prefix = b })
	}
	for _, n := range []uint64{0, 1, 9, 10, 12, 14, 16, most, most + 1, far} {
		wrong("another earlier size", func(d *heads) { d.m = n })
		wrong("another later size", func(d *heads) { d.n = n })
	}
	for _, i := range []uint64{0, 8, 10, 11, 12, 13, far} {
		wrong("another index", func(d *heads) { d.i = i })
	}
	for bit := range 256 {
		wrong("another earlier root", func(d *heads) { d.r1[bit/8] ^= 1 << (bit % 8) })
		wrong("another later root", func(d *heads) { d.r2[bit/8] ^= 1 << (bit % 8) })
	}
	for _, w := range []int{-5, 0, 1, 3, 32, 99} {
		wrong("another width", func(d *heads) { d.w = w })
	}
	wrong("the prefix the other way round", func(d *heads) { d.m, d.n, d.r1, d.r2 = d.n, d.m, d.r2, d.r1 })
	wrong("the proofs swapped", func(d *heads) { d.p, d.q = d.q, d.p })
	wrong("another earlier leaf", func(d *heads) { d.x[31] ^= 1 })
	wrong("another later leaf", func(d *heads) { d.y[31] ^= 1 })
	wrong("one leaf twice", func(d *heads) { d.y = d.x })
	wrong("the other leaf twice", func(d *heads) { d.x = d.y })
	wrong("no bytes", func(d *heads) { d.prefix = nil })
	wrong("a proof for a prefix", func(d *heads) { d.prefix = d.q })
}

// Promise 9.7: one leaf twice, by proofs that have unlike texts with one hash: it is not asked about those.
func TestAcrossOfOneLeafWithClashes(t *testing.T) {
	const w, i, m, n = 1, 77, 1<<20 - 1, 1<<21 - 1
	f := forest{w, i, m}
	for k := range uint64(50) {
		if honest(t, f, n, h(k), h(k), h(k)).check(t) {
			t.Fatalf("one leaf twice, %d", k)
		}
	}
}

// Promise 9.4: both heads are right, but the leaf stands behind the earlier one: no proof of it is accepted there.
func TestAcrossBehindTheEarlierHead(t *testing.T) {
	const w, m, n = 1, 5, 8
	f := forest{w, 2, m}
	c := honest(t, f, n, h(1), h(1), h(1))
	for i := uint64(m); i < n; i++ {
		for k := range uint64(200) {
			d := c
			d.i = i
			d.q = raw(t, api.Proof{Size: n, Index: i, Nodes: hashes(k, nodesOf(i, n))})
			if d.check(t) {
				t.Fatalf("a clash at %d", i)
			}
		}
	}
}

// Promise 9.6: what is told is told again (R4). Rule R3: what is handed in is not changed, and nothing is read or written
// behind it.
func TestAcrossIsLeftAlone(t *testing.T) {
	c := wide(t)[1]
	var long [][]byte
	for _, b := range [][]byte{c.p, c.q, c.prefix} {
		long = append(long, append(bytes.Clone(b), 1, 2, 3))
	}
	before := [][]byte{bytes.Clone(long[0]), bytes.Clone(long[1]), bytes.Clone(long[2])}
	d := c
	d.p, d.q, d.prefix = long[0][:len(c.p)], long[1][:len(c.q)], long[2][:len(c.prefix)]
	checkSame(t, d.ask)
	d.mustTell(t)
	if !slices.EqualFunc(long, before, bytes.Equal) {
		t.Error("what was handed in is changed")
	}
}
