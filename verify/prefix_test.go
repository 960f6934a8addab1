package verify_test

import (
	"bytes"
	"math/bits"
	"slices"
	"testing"

	"massif/api"
	"massif/hash"
	"massif/proof"
	"massif/verify"
)

// begins is all that Prefix is handed but the bytes.
type begins struct {
	w  int
	m  uint64
	r1 api.Hash
	n  uint64
	r2 api.Hash
}

func checkPrefix(t *testing.T, c begins, b []byte, want api.Errno) {
	t.Helper()
	if e := verify.Prefix(c.w, c.m, c.r1, c.n, c.r2, b); e != want {
		t.Fatalf("Prefix(%d, %d, %x, %d, %x, %x) is %v, want %v", c.w, c.m, c.r1, c.n, c.r2, b, e, want)
	}
}

// rightPrefix is what is to be accepted, with its proof, of n leaves, all of them unlike.
func rightPrefix(w int, m, n uint64) (begins, api.Prefix) {
	all := rows(w, hashes(n, int(n)))
	p := api.Prefix{From: m, Size: n, Nodes: pick(all, prefixSpots(m, n))}
	return begins{w, m, bagOf(w, m, pick(all, peakSpots(m))), n, bagOf(w, n, pick(all, peakSpots(n)))}, p
}

// Promise 8.4, where all can be written out.
func TestPrefixExamples(t *testing.T) {
	a, b, c := h(1), h(2), h(3)
	ab := hash.Node(32, a, b)
	r1 := hash.Root(32, 1, a)
	r3 := hash.Root(32, 3, hash.Fold(32, ab, c))
	raw := rawPrefix(t, api.Prefix{From: 1, Size: 3, Nodes: []api.Hash{a, b, c}})
	checkPrefix(t, begins{32, 1, r1, 3, r3}, raw, api.OK)
	checkPrefix(t, begins{32, 1, r1, 4, r3}, raw, api.ErrSize)
	checkPrefix(t, begins{32, 2, r1, 3, r3}, raw, api.ErrSize)
	checkPrefix(t, begins{32, 1, r3, 3, r3}, raw, api.ErrRoot)
	checkPrefix(t, begins{32, 1, r1, 3, r1}, raw, api.ErrRoot)
	checkPrefix(t, begins{32, 3, r3, 1, r1}, raw, api.ErrSize)
	checkPrefix(t, begins{32, 1, r1, 3, r3}, raw[:len(raw)-1], api.ErrCut)
	empty := hash.Root(32, 0, api.Hash{})
	checkPrefix(t, begins{32, 0, empty, 0, empty}, []byte{80, 0, 0}, api.OK)
	checkPrefix(t, begins{32, 0, api.Hash{}, 0, empty}, []byte{80, 0, 0}, api.ErrRoot)
	checkPrefix(t, begins{32, 0, empty, 0, api.Hash{}}, []byte{80, 0, 0}, api.ErrRoot)
}

// Promise 8.5: what MakePrefix makes of a tree is accepted, of Root and of Old, for each two sizes that the tree has had.
func TestPrefixOfTrees(t *testing.T) {
	for _, w := range widths() {
		leaves := hashes(40, some)
		tree := grown(t, w, nil)
		var roots []api.Hash
		for n := range uint64(some + 1) {
			roots = append(roots, tree.Root())
			for m := range n + 1 {
				checkPrefix(t, begins{w, m, roots[m], n, tree.Root()}, madePrefix(t, tree, m, n), api.OK)
			}
			if n < some {
				tree.Append(leaves[n])
			}
		}
		for n := range uint64(some + 1) {
			if old, e := tree.Old(n); old != roots[n] || e != api.OK {
				t.Fatalf("Old(%d) is %x, %v", n, old, e)
			}
			for m := range n + 1 {
				checkPrefix(t, begins{w, m, roots[m], n, roots[n]}, madePrefix(t, tree, m, n), api.OK)
			}
		}
	}
}

// madePrefix is the bytes of what MakePrefix makes.
func madePrefix(t *testing.T, s proof.Source, m, n uint64) []byte {
	t.Helper()
	p, e := proof.MakePrefix(s, m, n)
	if e != api.OK {
		t.Fatalf("MakePrefix(%d, %d) is %v", m, n, e)
	}
	return rawPrefix(t, p)
}

// Promise 8.4: what follows from any nodes is accepted, up to the greatest size; with one of the two roots alone it is not.
func TestPrefixOfGreatSizes(t *testing.T) {
	var d dice
	for k, n := range great() {
		for _, m := range append(within(n), n) {
			p := api.Prefix{From: m, Size: n, Nodes: hashes(uint64(100*k), len(prefixSpots(m, n)))}
			first, second := reachOf(32, p, &d)
			c := begins{32, m, bagOf(32, m, first), n, bagOf(32, n, second)}
			b := rawPrefix(t, p)
			checkPrefix(t, c, b, api.OK)
			x, y := c, c
			x.r1 = turned(c.r1, k)
			checkPrefix(t, x, b, api.ErrRoot)
			y.r2 = turned(c.r2, k)
			checkPrefix(t, y, b, api.ErrRoot)
		}
	}
}

// Promise 8.4: each bit of the two roots counts, whether the other one is right or not.
func TestPrefixOfOtherRoots(t *testing.T) {
	for n := range uint64(12) {
		for m := range n + 1 {
			c, p := rightPrefix(32, m, n)
			b := rawPrefix(t, p)
			for bit := range 256 {
				x, y, z := c, c, c
				x.r1 = turned(c.r1, bit)
				checkPrefix(t, x, b, api.ErrRoot)
				y.r2 = turned(c.r2, bit)
				checkPrefix(t, y, b, api.ErrRoot)
				z.r1, z.r2 = x.r1, y.r2
				checkPrefix(t, z, b, api.ErrRoot)
			}
			if m != n {
				checkPrefix(t, begins{32, m, c.r2, n, c.r1}, b, api.ErrRoot)
				checkPrefix(t, begins{32, m, c.r2, n, c.r2}, b, api.ErrRoot)
				checkPrefix(t, begins{32, m, c.r1, n, c.r1}, b, api.ErrRoot)
			}
			checkPrefix(t, c, b, api.OK)
		}
	}
}

// Promise 8.4: a node in which one bit is turned: one of the first list turns both roots, one behind it the second alone.
func TestPrefixOfOtherBits(t *testing.T) {
	for n := range uint64(14) {
		for m := range n + 1 {
			c, p := rightPrefix(32, m, n)
			for k := range p.Nodes {
				for bit := 0; bit < 256; bit += 5 {
					bad := p
					bad.Nodes = slices.Clone(p.Nodes)
					bad.Nodes[k] = turned(bad.Nodes[k], bit)
					b := rawPrefix(t, bad)
					checkPrefix(t, c, b, api.ErrRoot)
					var d dice
					first, second := reachOf(32, bad, &d)
					checkPrefix(t, begins{32, m, bagOf(32, m, first), n, bagOf(32, n, second)}, b, api.OK)
					want := api.ErrRoot
					if k >= bits.OnesCount64(m) {
						want = api.OK
					}
					checkPrefix(t, begins{32, m, c.r1, n, bagOf(32, n, second)}, b, want)
					checkPrefix(t, begins{32, m, bagOf(32, m, first), n, c.r2}, b, api.ErrRoot)
				}
			}
		}
	}
}

// Promise 8.4: nodes that have changed places.
func TestPrefixOfNodesElsewhere(t *testing.T) {
	for n := range uint64(24) {
		for m := range n + 1 {
			c, p := rightPrefix(32, m, n)
			for x := range p.Nodes {
				for y := range x {
					bad := p
					bad.Nodes = slices.Clone(p.Nodes)
					bad.Nodes[x], bad.Nodes[y] = bad.Nodes[y], bad.Nodes[x]
					checkPrefix(t, c, rawPrefix(t, bad), api.ErrRoot)
				}
			}
		}
	}
}

// Promise 8.4: a proof's From or Size that is not the one asked for, or neither, beside right and wrong roots.
func TestPrefixOfOtherNumbers(t *testing.T) {
	for n := range uint64(16) {
		for m := range n + 1 {
			good, p := rightPrefix(32, m, n)
			b := rawPrefix(t, p)
			for _, c := range []begins{good, {32, m, h(1), n, good.r2}, {32, m, good.r1, n, h(1)}, {32, m, h(1), n, h(1)}} {
				for _, x := range []uint64{0, 1, m - 1, m + 1, n, n + 1, m + 1<<32, m ^ 1<<63, most, most + 1, far} {
					if x != m {
						checkPrefix(t, begins{32, x, c.r1, n, c.r2}, b, api.ErrSize)
						checkPrefix(t, begins{32, x, c.r1, n + 1, c.r2}, b, api.ErrSize)
						checkPrefix(t, begins{32, x, c.r1, x, c.r2}, b, api.ErrSize)
					}
				}
				for _, x := range []uint64{0, m, n - 1, n + 1, n + 1<<32, n ^ 1<<63, most, most + 1, far} {
					if x != n {
						checkPrefix(t, begins{32, m, c.r1, x, c.r2}, b, api.ErrSize)
					}
				}
			}
		}
	}
}

// Promise 8.4: sizes above MaxLeaves, asked for and in the bytes: DecodePrefix's error stands first.
func TestPrefixBeyondMaxLeaves(t *testing.T) {
	c, p := rightPrefix(32, 3, 5)
	for _, n := range beyond() {
		checkPrefix(t, begins{32, 3, c.r1, n, c.r2}, rawPrefix(t, p), api.ErrSize)
		checkPrefix(t, begins{32, n, c.r1, n, c.r2}, nil, api.ErrCut)
	}
	b := []byte{80, 0, 0x81, 0x80, 0x80, 0x80, 0x80, 0x80, 0x80, 0x80, 0x40} // 0 and 2^62 + 1
	checkPrefix(t, begins{32, 0, h(1), most + 1, h(2)}, b, api.ErrSize)
	b[2] = 0x80 // 2^62, with a node that lacks
	checkPrefix(t, begins{32, 0, h(1), most + 1, h(2)}, b, api.ErrCut)
}

// Promise 8.4: with small widths other roots' proofs are accepted just where what follows is the same.
func TestPrefixOfSmallWidths(t *testing.T) {
	accepted := 0
	for _, w := range []int{0, 1, 2} {
		for n := range uint64(13) {
			for m := range n + 1 {
				c, p := rightPrefix(w, m, n)
				for k := range uint64(40) {
					if len(p.Nodes) == 0 {
						continue
					}
					p.Nodes[len(p.Nodes)-1] = h(1000 + k)
					b := rawPrefix(t, p)
					want := prefixOf(w, m, c.r1, n, c.r2, b)
					if want == api.OK {
						accepted++
					}
					checkPrefix(t, c, b, want)
				}
			}
		}
	}
	if accepted == 0 {
		t.Error("no other proof was accepted: no clash was tried")
	}
}

// Promise 8.4: a proof is one of its width alone; widths outside count as the nearest.
func TestPrefixOfOtherWidth(t *testing.T) {
	for _, w := range widths() {
		c, p := rightPrefix(w, 5, 11)
		b := rawPrefix(t, p)
		for _, v := range widths() {
			want := api.ErrRoot
			if min(max(v, 1), 32) == min(max(w, 1), 32) {
				want = api.OK
			}
			c.w = v
			checkPrefix(t, c, b, want)
		}
	}
}

// Promise 8.4: bytes that DecodePrefix refuses: cut off at each length, with another first byte, of the other kind, with
// one byte more; whatever is claimed.
func TestPrefixOfWrongBytes(t *testing.T) {
	for _, n := range []uint64{1, 2, 7, 60, 200} {
		c, p := rightPrefix(32, n/2, n)
		b := rawPrefix(t, p)
		_, q := right(t, 32, 0, n)
		for _, d := range []begins{c, {32, c.m + 1, c.r1, n, c.r2}, {32, c.m, c.r1, n + 1, c.r2}, {32, c.m, h(1), n, h(2)}, {}} {
			for k := range b {
				checkPrefix(t, d, b[:k:k], api.ErrCut)
				checkPrefix(t, d, b[:k], api.ErrCut) // the bytes that lack lie behind its length
			}
			for first := range 256 {
				x := slices.Clone(b)
				x[0] = byte(first)
				if first != 80 {
					checkPrefix(t, d, x, api.ErrKind)
				}
			}
			for last := range 256 {
				checkPrefix(t, d, append(slices.Clone(b), byte(last)), api.ErrTail)
			}
			checkPrefix(t, d, slices.Concat(b, b), api.ErrTail)
			checkPrefix(t, d, nil, api.ErrCut)
			checkPrefix(t, d, []byte{80}, api.ErrCut)
			checkPrefix(t, d, []byte{77}, api.ErrKind)
			checkPrefix(t, d, []byte{80, 0x81, 0}, api.ErrForm)
			checkPrefix(t, d, []byte{80, 3, 2}, api.ErrSize)
			checkPrefix(t, d, append([]byte{80}, bytes.Repeat([]byte{255}, 10)...), api.ErrRange)
			checkPrefix(t, d, raw(t, q), api.ErrKind)
		}
	}
}

// Promise 8.4 and rule R1: whatever the bytes are, by the words of the chapter.
func TestPrefixOfAnyBytes(t *testing.T) {
	var d dice
	for range 20000 {
		n := d.next(20)
		c, p := rightPrefix([]int{1, 2, 32}[d.next(3)], d.next(n+1), n)
		b := rawPrefix(t, p)
		for range d.next(3) {
			switch d.next(4) {
			case 0:
				b[d.next(uint64(len(b)))] ^= 1 << d.next(8)
			case 1:
				b = b[:d.next(uint64(len(b)))+1]
			case 2:
				b[d.next(min(4, uint64(len(b))))] = byte(d.next(256))
			case 3:
				b = slices.Insert(b, int(d.next(uint64(len(b))+1)), byte(d.next(256)))
			}
		}
		switch d.next(6) {
		case 0:
			c.n = d.next(21)
		case 1:
			c.m = d.next(21)
		case 2:
			c.r1 = turned(c.r1, int(d.next(256)))
		case 3:
			c.r2 = turned(c.r2, int(d.next(256)))
		}
		checkPrefix(t, c, b, prefixOf(c.w, c.m, c.r1, c.n, c.r2, b))
	}
}

// Rules R3 and R4: the bytes are not changed and not kept; nothing hangs on what was asked ahead.
func TestPrefixKeepsNothing(t *testing.T) {
	for n := range uint64(some + 1) {
		c, p := rightPrefix(32, n/2, n)
		room := append(rawPrefix(t, p), 1, 2, 3)
		was := slices.Clone(room)
		b := room[:len(room)-3]
		checkPrefix(t, c, b, api.OK)
		if !slices.Equal(room, was) {
			t.Fatalf("size %d: Prefix changed the bytes, or what lies behind", n)
		}
		for i := range room {
			room[i] = ^room[i]
		}
		checkPrefix(t, c, b, api.ErrKind)
		checkPrefix(t, c, was[:len(was)-3], api.OK)
		checkPrefix(t, c, was, api.ErrTail)
	}
}
