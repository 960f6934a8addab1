package sync_test

import (
	"bytes"
	"fmt"
	"slices"
	"testing"

	"massif/api"
	"massif/proof"
	"massif/verify"
)

// anyAim calls Aim of both, whatever they answer, and answers it.
func (p *pair) anyAim(n uint64, r api.Hash, b []byte) api.Errno {
	p.t.Helper()
	e := p.words.Aim(n, r, b)
	got := p.r.Aim(n, r, b)
	p.trace = append(p.trace, fmt.Sprintf("Aim(%d, %x)", n, b))
	if got != e {
		p.fail("its answer", got, e)
	}
	p.met = append(p.met, e)
	p.same()
	return e
}

// Promise 17.2: an aim at its own head is reached at once, at every small size, without leaves too, and as often as one
// likes; of another root it is refused.
func TestAimAtItself(t *testing.T) {
	for _, w := range []int{1, 32} {
		for n := range uint64(20) {
			l := leaves(0, int(n))
			x := treeOf(t, w, l)
			p := at(t, w, 2, l)
			for range 3 {
				p.Aim(n, x.Root(), bytesOf(t, x, n, n), api.OK)
				p.Feed(nil, 0, api.ErrStage)
				p.Feed(leaves(n, 1), 0, api.ErrStage)
				p.Drop(api.ErrStage)
			}
			other := x.Root()
			other[0] ^= 1
			p.Aim(n, other, bytesOf(t, x, n, n), api.ErrRoot)
			p.Aim(n, api.Hash{}, bytesOf(t, x, n, n), api.ErrRoot)
			p.Aim(n+1, x.Root(), bytesOf(t, x, n, n), api.ErrSize)
		}
	}
}

// Promise 17.2: no smaller size is aimed at, by whatever bytes.
func TestAimAtLess(t *testing.T) {
	for m := uint64(1); m <= 12; m++ {
		l := leaves(0, int(m))
		x := treeOf(t, 32, l)
		p := at(t, 32, 1, l)
		for n := range m {
			r := rootAt(t, x, n)
			p.Aim(n, r, bytesOf(t, x, n, n), api.ErrSize)
			p.Aim(n, r, bytesOf(t, x, n, m), api.ErrSize)
			p.Aim(n, r, bytesOf(t, x, m, m), api.ErrSize)
			p.Aim(n, r, append([]byte{80, byte(m), byte(n)}, bytesOf(t, x, m, m)[3:]...), api.ErrSize)
			p.Aim(n, r, nil, api.ErrCut)
		}
		more := treeOf(t, 32, leaves(0, int(m)+3))
		p.reach(more, m+3)
	}
}

// Promise 17.2: while it aims at something no other aim is taken: right bytes or wrong ones, the same head or another one,
// its own or none; the aim goes on.
func TestSecondAim(t *testing.T) {
	x := treeOf(t, 32, leaves(0, 14))
	for m := range uint64(6) {
		for n := m + 1; n < 9; n++ {
			p := at(t, 32, 1, leaves(0, int(m)))
			p.Aim(n, rootAt(t, x, n), bytesOf(t, x, m, n), api.OK)
			for i := m; i < n; i++ {
				for _, other := range []uint64{m, n, n + 1, i, 0} {
					p.Aim(other, rootAt(t, x, other), bytesOf(t, x, min(m, other), other), api.ErrStage)
				}
				p.Aim(n, api.Hash{}, bytesOf(t, x, m, n), api.ErrStage)
				p.Aim(n, rootAt(t, x, n), nil, api.ErrStage)
				p.Aim(far, api.Hash{}, []byte{77}, api.ErrStage)
				p.Feed(leaves(i, 1), n-i-1, api.OK)
			}
			p.reach(x, n+5)
		}
	}
}

// spoilt are a proof's bytes, each time spoilt in another way, with what Prefix says of them, in the order of its errors.
func spoilt(b []byte) []struct {
	name string
	b    []byte
	want api.Errno
} {
	nodes := b[3:] // small sizes have one byte each
	over := bytes.Repeat([]byte{255}, 10)
	other := slices.Clone(b)
	other[len(other)-1] ^= 1
	first := slices.Clone(b)
	first[3] ^= 1
	return []struct {
		name string
		b    []byte
		want api.Errno
	}{
		{"nil", nil, api.ErrCut},
		{"empty", []byte{}, api.ErrCut},
		{"another kind", slices.Concat([]byte{77}, b[1:]), api.ErrKind},
		{"the kind alone", b[:1], api.ErrCut},
		{"From cut", []byte{80, 128}, api.ErrCut},
		{"From too great", slices.Concat([]byte{80}, over, b[1:]), api.ErrRange},
		{"From of another form", slices.Concat([]byte{80, b[1] | 128, 0}, b[2:]), api.ErrForm},
		{"Size cut", b[:2], api.ErrCut},
		{"Size too great", slices.Concat(b[:2], over, b[3:]), api.ErrRange},
		{"Size of another form", slices.Concat(b[:2], []byte{b[2] | 128, 0}, nodes), api.ErrForm},
		{"Size above MaxLeaves", slices.Concat(b[:2], []byte{129, 128, 128, 128, 128, 128, 128, 128, 64}, nodes), api.ErrSize},
		{"From above Size", slices.Concat([]byte{80, b[2] + 1, b[2]}, nodes), api.ErrSize},
		{"nodes cut", b[:len(b)-1], api.ErrCut},
		{"no node", b[:3], api.ErrCut},
		{"a byte more", append(slices.Clone(b), 0), api.ErrTail},
		{"the first node another", first, api.ErrRoot},
		{"the last node another", other, api.ErrRoot},
	}
}

// Promise 17.2: each error of Prefix, from the bytes; behind each the replica is what it was, and the right bytes are
// taken.
func TestAimRefused(t *testing.T) {
	x := treeOf(t, 32, leaves(0, 14))
	for m := range uint64(7) {
		for n := m + 1; n < 12; n++ {
			r, b := rootAt(t, x, n), bytesOf(t, x, m, n)
			p := at(t, 32, 4, leaves(0, int(m)))
			for _, s := range spoilt(b) {
				p.name = fmt.Sprint(m, " to ", n, ", ", s.name)
				p.Aim(n, r, s.b, s.want)
			}
			p.reach(x, n)
		}
	}
}

// Promise 17.2 and rule R2: sizes that are others are told ahead of roots, behind what is wrong with the bytes.
func TestAimErrorsInOrder(t *testing.T) {
	x := treeOf(t, 32, leaves(0, 14))
	none := api.Hash{}
	for m := range uint64(7) {
		for n := m + 1; n < 12; n++ {
			r, b := rootAt(t, x, n), bytesOf(t, x, m, n)
			p := at(t, 32, 4, leaves(0, int(m)))
			p.Aim(n, none, b, api.ErrRoot)
			p.Aim(n, p.r.Root(), b, api.ErrRoot)
			p.Aim(n+1, r, b, api.ErrSize)
			p.Aim(n+1, none, b, api.ErrSize)
			p.Aim(n-1, r, b, api.ErrSize)
			p.Aim(far, r, b, api.ErrSize)
			p.Aim(n, r, bytesOf(t, x, m+1, n), api.ErrSize)
			p.Aim(n, r, bytesOf(t, x, n, n), api.ErrSize)
			p.Aim(n, none, bytesOf(t, x, n, n), api.ErrSize)
			p.Aim(n+1, none, b[:len(b)-1], api.ErrCut)
			p.Aim(n+1, none, append(slices.Clone(b), 7), api.ErrTail)
			p.Aim(n+1, none, append([]byte{69}, b[1:]...), api.ErrKind)
			p.reach(x, n)
		}
	}
}

// Promise 17.2: cut anywhere, or with any bit turned, bytes are what Prefix says of them.
func TestAimBytes(t *testing.T) {
	x := treeOf(t, 32, leaves(0, 14))
	for _, s := range [][2]uint64{{0, 0}, {0, 1}, {0, 3}, {2, 2}, {3, 5}, {5, 12}} {
		m, n := s[0], s[1]
		r, b := rootAt(t, x, n), bytesOf(t, x, m, n)
		p := at(t, 32, 0, leaves(0, int(m)))
		for end := range len(b) {
			if e := p.anyAim(n, r, b[:end]); e == api.OK {
				t.Fatalf("%d to %d: an aim with the first %d bytes is taken", m, n, end)
			}
		}
		for bit := range 8 * len(b) {
			c := slices.Clone(b)
			c[bit/8] ^= 1 << (bit % 8)
			if e := p.anyAim(n, r, c); e == api.OK {
				t.Fatalf("%d to %d: an aim with another bit %d is taken", m, n, bit)
			}
		}
		p.trace = nil
		p.reach(x, n)
	}
}

// Promise 17.2: the replica's own size and root are what must be a prefix: the proof of another forest is refused, that of
// a forest that begins with its leaves is taken, whichever it is.
func TestAimAtOthers(t *testing.T) {
	for _, m := range []int{1, 2, 3, 4, 7, 8} {
		x := treeOf(t, 32, leaves(0, 12))
		begins := treeOf(t, 32, slices.Concat(leaves(0, m), leaves(500, 9)))
		other := treeOf(t, 32, slices.Concat(leaves(600, 1), leaves(1, 11)))
		p := at(t, 32, 1, leaves(0, m))
		n := uint64(m)
		p.Aim(12, other.Root(), bytesOf(t, other, n, 12), api.ErrRoot)
		p.Aim(n, rootAt(t, other, n), bytesOf(t, other, n, n), api.ErrRoot)
		p.Aim(12, x.Root(), bytesOf(t, x, n, 12), api.OK)
		p.Drop(api.OK)
		p.reach(begins, n+4)
		p.Aim(12, x.Root(), bytesOf(t, x, n+4, 12), api.ErrRoot)
		p.reach(begins, n+9)
	}
}

// Promise 17.2: heads of sizes up to MaxLeaves are aimed at, and of none above; nothing is made room for that has not come.
func TestAimFarAway(t *testing.T) {
	sizes := []uint64{300, 1 << 31, 1<<32 + 5, 1 << 40, 0x0123456789abcdef, 1 << 61, most - 1, most}
	for m := range 6 {
		for _, n := range sizes {
			p := at(t, 32, 2, leaves(0, m))
			r, b := madeUp(t, &p.words, n)
			left := n - uint64(m)
			p.Aim(n, r, b, api.OK)
			p.Feed(leaves(40, 3), left-3, api.OK)
			p.Aim(n, r, b, api.ErrStage)
			p.Feed(leaves(43, 30), left-33, api.OK)
			p.Drop(api.OK)
			p.Aim(n, r, b, api.OK)
			p.Drop(api.OK)
			p.reach(treeOf(t, 32, leaves(0, m+3)), uint64(m+3))
			p.Aim(n, r, b, api.ErrSize)
		}
		p := at(t, 32, 2, leaves(0, m))
		r, b := madeUp(t, &p.words, most)
		for _, n := range []uint64{most + 1, 1 << 63, far} {
			p.Aim(n, r, b, api.ErrSize)
		}
	}
}

// Promise 17.2: bytes that say what another replica would need are refused, of each pair of sizes but the right one.
func TestAimFromOtherSizes(t *testing.T) {
	x := treeOf(t, 2, leaves(0, 10))
	for m := range uint64(8) {
		for from := range uint64(10) {
			for to := from; to <= 10; to++ {
				p := at(t, 2, 0, leaves(0, int(m)))
				b := bytesOf(t, x, from, to)
				if e := p.anyAim(10, x.Root(), b); (e == api.OK) != (from == m && to == 10) {
					t.Fatalf("at %d, from %d to %d: Aim is %v", m, from, to, e)
				}
			}
		}
	}
}

// The words lean on chapter 8, and these tests on proofs that are what they are said to be.
func TestProofsAreRight(t *testing.T) {
	x := treeOf(t, 32, leaves(0, 14))
	for m := range uint64(12) {
		for n := m; n < 12; n++ {
			b := bytesOf(t, x, m, n)
			if q, e := proof.DecodePrefix(b); e != api.OK || q.From != m || q.Size != n {
				t.Fatalf("DecodePrefix(%x) is %v, %v", b, q, e)
			}
			if e := verify.Prefix(32, m, rootAt(t, x, m), n, rootAt(t, x, n), b); e != api.OK {
				t.Fatalf("Prefix from %d to %d is %v", m, n, e)
			}
		}
	}
}
