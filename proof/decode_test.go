package proof_test

import (
	"bytes"
	"slices"
	"testing"

	"massif/api"
	"massif/proof"
)

func checkDecode(t *testing.T, b []byte, want api.Proof, wantE api.Errno) {
	t.Helper()
	if got, e := proof.Decode(b); !sameProof(got, want) || e != wantE {
		t.Fatalf("Decode(%x) is %v, %v, want %v, %v", b, got, e, want, wantE)
	}
}

func checkDecodePrefix(t *testing.T, b []byte, want api.Prefix, wantE api.Errno) {
	t.Helper()
	if got, e := proof.DecodePrefix(b); !samePrefix(got, want) || e != wantE {
		t.Fatalf("DecodePrefix(%x) is %v, %v, want %v, %v", b, got, e, want, wantE)
	}
}

// checkBoth holds both readers against the words of 7.5, and what they read against what Encode writes of it.
func checkBoth(t *testing.T, b []byte) {
	t.Helper()
	p, e := read(b)
	checkDecode(t, b, p, e)
	if e == api.OK {
		checkEncode(t, p, b, api.OK)
	}
	q, e := readPrefix(b)
	checkDecodePrefix(t, b, q, e)
	if e == api.OK {
		checkEncodePrefix(t, q, b, api.OK)
	}
}

// times is a byte so many times, and what comes behind.
func times(c byte, n int, behind ...byte) []byte {
	return append(bytes.Repeat([]byte{c}, n), behind...)
}

// head is a first byte and what comes behind.
func head(kind byte, parts ...[]byte) []byte { return append([]byte{kind}, slices.Concat(parts...)...) }

// Promise 7.5: the examples, and each error where it stands first.
func TestDecodeExamples(t *testing.T) {
	checkDecode(t, []byte{0x4d, 1, 0}, api.Proof{Size: 1}, api.OK)
	for _, x := range []struct {
		b []byte
		e api.Errno
	}{
		{[]byte{0x4d, 1, 0, 0}, api.ErrTail}, {[]byte{0x4d, 2, 0}, api.ErrCut}, {[]byte{0x50, 1, 0}, api.ErrKind}, {[]byte{0x50}, api.ErrKind}, {[]byte{0x4d, 0x81, 0, 0}, api.ErrForm},
		{nil, api.ErrCut}, {[]byte{}, api.ErrCut}, {[]byte{0x4d}, api.ErrCut}, {[]byte{0x4d, 1}, api.ErrCut}, {[]byte{0x4d, 0x81}, api.ErrCut}, {[]byte{0x4d, 1, 0x80}, api.ErrCut},
		{[]byte{0x4d, 0, 0}, api.ErrIndex}, {[]byte{0x4d, 1, 1}, api.ErrIndex}, {[]byte{0x4d, 1, 2, 9, 9}, api.ErrIndex}, {[]byte{0x4d, 0}, api.ErrCut},
		{[]byte{0x4d, 1, 0x80, 0}, api.ErrForm}, {[]byte{0x4d, 1, 0x81, 0, 1}, api.ErrForm},
		{times(255, 10), api.ErrKind}, {head(0x4d, times(255, 10)), api.ErrRange}, {head(0x4d, times(255, 9, 2)), api.ErrRange}, {head(0x4d, times(1, 1), times(128, 10)), api.ErrRange},
		// A size that is none is told ahead of what is wrong with the bytes behind it.
		{head(0x4d, groups(most+1)), api.ErrSize}, {head(0x4d, groups(far)), api.ErrSize}, {head(0x4d, groups(far), times(128, 1, 0)), api.ErrSize}, {head(0x4d, groups(most+1), times(255, 10)), api.ErrSize},
		{head(0x4d, groups(most)), api.ErrCut}, {head(0x4d, groups(most), groups(most)), api.ErrIndex}, {head(0x4d, groups(most), groups(far)), api.ErrIndex}, {head(0x4d, groups(most), groups(most-1)), api.ErrCut},
	} {
		checkDecode(t, x.b, api.Proof{}, x.e)
		if _, e := read(x.b); e != x.e {
			t.Fatalf("%x, read by the words, is %v, want %v", x.b, e, x.e)
		}
	}
}

// Promise 7.5: prefixes likewise.
func TestDecodePrefixExamples(t *testing.T) {
	checkDecodePrefix(t, []byte{0x50, 0, 0}, api.Prefix{}, api.OK)
	a := h(5)
	checkDecodePrefix(t, append([]byte{0x50, 0, 1}, a[:]...), api.Prefix{From: 0, Size: 1, Nodes: []api.Hash{a}}, api.OK)
	checkDecodePrefix(t, append([]byte{0x50, 1, 1}, a[:]...), api.Prefix{From: 1, Size: 1, Nodes: []api.Hash{a}}, api.OK)
	for _, x := range []struct {
		b []byte
		e api.Errno
	}{
		{nil, api.ErrCut}, {[]byte{}, api.ErrCut}, {[]byte{0x4d, 1, 0}, api.ErrKind}, {[]byte{0x50}, api.ErrCut}, {[]byte{0x50, 0}, api.ErrCut}, {[]byte{0x50, 0, 0, 0}, api.ErrTail}, {[]byte{0x50, 0, 1}, api.ErrCut},
		{[]byte{0x50, 2, 1}, api.ErrSize}, {[]byte{0x50, 1, 0}, api.ErrSize}, {[]byte{0x50, 0x80, 0, 1}, api.ErrForm}, {[]byte{0x50, 0, 0x81, 0}, api.ErrForm}, {[]byte{0x50, 0x80}, api.ErrCut}, {[]byte{0x50, 9, 0x80}, api.ErrCut},
		{times(255, 10), api.ErrKind}, {head(0x50, times(255, 10)), api.ErrRange}, {head(0x50, times(0, 1), times(255, 9, 2)), api.ErrRange},
		{head(0x50, groups(0), groups(most+1)), api.ErrSize}, {head(0x50, groups(0), groups(far)), api.ErrSize}, {head(0x50, groups(0), groups(most)), api.ErrCut}, {head(0x50, groups(most), groups(most)), api.ErrCut},
		// A From that is no size is told behind what is wrong with the bytes of Size.
		{head(0x50, groups(far)), api.ErrCut}, {head(0x50, groups(far), times(128, 1, 0)), api.ErrForm}, {head(0x50, groups(far), times(255, 10)), api.ErrRange}, {head(0x50, groups(far), groups(5)), api.ErrSize}, {head(0x50, groups(far), groups(far)), api.ErrSize},
	} {
		checkDecodePrefix(t, x.b, api.Prefix{}, x.e)
		if _, e := readPrefix(x.b); e != x.e {
			t.Fatalf("%x, read by the words, is %v, want %v", x.b, e, x.e)
		}
	}
}

// few are some leaves of n: the first and the last ones, and some between.
func few(n uint64) []uint64 {
	var l []uint64
	for _, i := range []uint64{0, 1, 2, 5, n / 3, n / 2, n/2 + 1, n - 5, n - 2, n - 1} {
		if i < n {
			l = append(l, i)
		}
	}
	return l
}

// Promises 7.5 and 7.6: there and back; cut off at each length, and with bytes more at the end.
func TestThereAndBack(t *testing.T) {
	for _, n := range sizes() {
		for _, i := range few(n) {
			p := api.Proof{Size: n, Index: i, Nodes: hashes(i+n, len(spotsOf(i, n)))}
			b, e := proof.Encode(p)
			if e != api.OK {
				t.Fatalf("Encode{%d, %d} is %v", n, i, e)
			}
			checkDecode(t, b, p, api.OK)
			for k := range b {
				checkDecode(t, b[:k], api.Proof{}, api.ErrCut)
			}
			for _, tail := range [][]byte{{0}, {1}, {255}, {0x4d}, make([]byte, 31), make([]byte, 32), make([]byte, 33), b} {
				checkDecode(t, slices.Concat(b, tail), api.Proof{}, api.ErrTail)
			}
			checkDecodePrefix(t, b, api.Prefix{}, api.ErrKind)
		}
		for _, m := range append(few(n), n) {
			p := api.Prefix{From: m, Size: n, Nodes: hashes(m+n, len(prefixSpotsOf(m, n)))}
			b, e := proof.EncodePrefix(p)
			if e != api.OK {
				t.Fatalf("EncodePrefix{%d, %d} is %v", m, n, e)
			}
			checkDecodePrefix(t, b, p, api.OK)
			for k := range b {
				checkDecodePrefix(t, b[:k], api.Prefix{}, api.ErrCut)
			}
			for _, tail := range [][]byte{{0}, {1}, {255}, {0x50}, make([]byte, 31), make([]byte, 32), make([]byte, 33), b} {
				checkDecodePrefix(t, slices.Concat(b, tail), api.Prefix{}, api.ErrTail)
			}
			checkDecode(t, b, api.Proof{}, api.ErrKind)
		}
	}
}

// Promise 7.5: every first byte, ahead of good bytes and of bytes that are wrong in other ways.
func TestDecodeKinds(t *testing.T) {
	for first := range 256 {
		for _, behind := range [][]byte{nil, {1, 0}, {0, 0}, {1, 0, 0}, {0x80, 0}, {2, 0}, {5, 5}, times(255, 10)} {
			b := append([]byte{byte(first)}, behind...)
			if first != 77 {
				checkDecode(t, b, api.Proof{}, api.ErrKind)
			}
			if first != 80 {
				checkDecodePrefix(t, b, api.Prefix{}, api.ErrKind)
			}
			checkBoth(t, b)
		}
	}
}

// written are numbers in bytes: right ones, longer forms, cut off ones, too great ones.
func written() [][]byte {
	var l [][]byte
	for _, x := range []uint64{0, 1, 2, 3, 5, 7, 8, 127, 128, 300, 1<<32 - 1, most / 2, most - 1, most, most + 1, 1<<63 - 1, 1 << 63, far - 1, far} {
		b := groups(x)
		longer := slices.Clone(b)
		longer[len(longer)-1] += 128
		l = append(l, b, append(slices.Clone(longer), 0), append(slices.Clone(longer), 128, 0), longer)
	}
	return append(l, nil, times(128, 9), times(255, 9), times(128, 10), times(255, 10), times(255, 9, 2), times(128, 9, 2), times(128, 9, 127), times(128, 10, 1))
}

// Promises 7.5 and 7.6: all pairs of such numbers, with as many bytes behind as the nodes have, fewer and more.
func TestDecodeNumbers(t *testing.T) {
	for _, x := range written() {
		for _, y := range written() {
			for _, kind := range []byte{77, 80} {
				for _, long := range []int{0, 1, 31, 32, 33, 64, 96, 32 * 61, 32 * 62, 32 * 63, 4000} {
					checkBoth(t, head(kind, x, y, make([]byte, long)))
				}
			}
		}
	}
}

// Promises 7.5 and 7.6: all short lists of some bytes, alone and ahead of some nodes.
func TestDecodeShortBytes(t *testing.T) {
	some := []byte{0, 1, 2, 3, 5, 77, 80, 127, 128, 129, 255}
	var all [][]byte
	last := [][]byte{{77}, {80}, {0}}
	for range 3 {
		var next [][]byte
		for _, b := range last {
			for _, c := range some {
				next = append(next, append(slices.Clone(b), c))
			}
		}
		all = append(all, last...)
		last = next
	}
	for _, b := range append(all, last...) {
		for count := range 4 {
			checkBoth(t, slices.Concat(b, plain(hashes(4, count))))
		}
	}
}

// Promises 7.5 and 7.6: proofs in which some bytes are turned, put in or taken out.
func TestDecodeSpoiledBytes(t *testing.T) {
	d := dice(7)
	for range 20000 {
		n := 1 + d.next(70)
		if d.next(4) == 0 {
			n = 1 + d.next(1<<31)<<d.next(31)
		}
		i := d.next(n)
		b := bytesOf(77, n, i, hashes(d.next(99), len(spotsOf(i, n))))
		if d.next(2) == 0 {
			b = bytesOf(80, i, n, hashes(d.next(99), len(prefixSpotsOf(i, n))))
		}
		for range 1 + d.next(3) {
			at := int(d.next(uint64(min(len(b), 12)) + 1))
			if d.next(3) == 0 {
				at = int(d.next(uint64(len(b)) + 1))
			}
			b = spoiled(b, at, &d)
		}
		checkBoth(t, b)
	}
}

// spoiled is bytes with another one, one more, or one less, at a place.
func spoiled(b []byte, at int, d *dice) []byte {
	c := byte(d.next(256))
	switch {
	case at == len(b):
		return append(b, c)
	case d.next(2) == 0:
		b[at] ^= 1 << (c % 8)
		return b
	case c%2 == 0:
		return slices.Insert(b, at, c)
	}
	return slices.Delete(b, at, at+1)
}

// Promise 7.5: every bit of a proof's bytes tells something: turned, it is refused or is another proof.
func TestEveryBitCounts(t *testing.T) {
	for _, x := range [][2]uint64{{3, 7}, {299, 300}, {128, 129}, {0, most}} {
		i, n := x[0], x[1]
		p := api.Proof{Size: n, Index: i, Nodes: hashes(8, len(spotsOf(i, n)))}
		q := api.Prefix{From: i, Size: n, Nodes: hashes(8, len(prefixSpotsOf(i, n)))}
		a, b := bytesOf(77, n, i, p.Nodes), bytesOf(80, i, n, q.Nodes)
		for bit := range 8 * len(a) {
			a[bit/8] ^= 1 << (bit % 8)
			if got, e := proof.Decode(a); e == api.OK && sameProof(got, p) {
				t.Fatalf("Decode(%x) doesn't see the bit %d", a, bit)
			}
			a[bit/8] ^= 1 << (bit % 8)
		}
		for bit := range 8 * len(b) {
			b[bit/8] ^= 1 << (bit % 8)
			if got, e := proof.DecodePrefix(b); e == api.OK && samePrefix(got, q) {
				t.Fatalf("DecodePrefix(%x) doesn't see the bit %d", b, bit)
			}
			b[bit/8] ^= 1 << (bit % 8)
		}
	}
}

// Rule R3: bytes that are handed in stay as they are, and what lies behind them is neither read nor written; what is
// answered is apart from them and from other answers.
func TestDecodeLists(t *testing.T) {
	for n := range uint64(40) {
		for i := range n {
			p := api.Proof{Size: n, Index: i, Nodes: hashes(2, len(spotsOf(i, n)))}
			room := append(bytesOf(77, n, i, p.Nodes), times(9, 70)...)
			kept := slices.Clone(room)
			long := len(room) - 70
			for k := range long {
				checkDecode(t, room[:k], api.Proof{}, api.ErrCut)
			}
			a, _ := proof.Decode(room[:long])
			b, _ := proof.Decode(room[:long])
			if !bytes.Equal(room, kept) {
				t.Fatalf("Decode: %x has become %x", kept, room)
			}
			clear(room)
			clear(a.Nodes[:cap(a.Nodes)])
			if !sameProof(b, p) || !bytes.Equal(room, make([]byte, len(room))) {
				t.Fatalf("Decode(%x) has become %v", kept, b)
			}
			checkDecode(t, kept[:long], p, api.OK)
		}
		for m := range n + 1 {
			p := api.Prefix{From: m, Size: n, Nodes: hashes(2, len(prefixSpotsOf(m, n)))}
			room := append(bytesOf(80, m, n, p.Nodes), times(9, 70)...)
			kept := slices.Clone(room)
			long := len(room) - 70
			for k := range long {
				checkDecodePrefix(t, room[:k], api.Prefix{}, api.ErrCut)
			}
			a, _ := proof.DecodePrefix(room[:long])
			b, _ := proof.DecodePrefix(room[:long])
			if !bytes.Equal(room, kept) {
				t.Fatalf("DecodePrefix: %x has become %x", kept, room)
			}
			clear(room)
			clear(a.Nodes[:cap(a.Nodes)])
			if !samePrefix(b, p) || !bytes.Equal(room, make([]byte, len(room))) {
				t.Fatalf("DecodePrefix(%x) has become %v", kept, b)
			}
			checkDecodePrefix(t, kept[:long], p, api.OK)
		}
	}
}
