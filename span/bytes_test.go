package span_test

import (
	"bytes"
	"slices"
	"testing"

	"massif/api"
	"massif/span"
)

func checkEncode(t *testing.T, p api.Reach, want []byte, wantE api.Errno) {
	t.Helper()
	if got, e := span.Encode(p); !bytes.Equal(got, want) || e != wantE {
		t.Fatalf("Encode(%v) is %x, %v, want %x, %v", p, got, e, want, wantE)
	}
}

func checkDecode(t *testing.T, b []byte, want api.Reach, wantE api.Errno) {
	t.Helper()
	if got, e := span.Decode(b); !same(got, want) || e != wantE {
		t.Fatalf("Decode(%x) is %v, %v, want %v, %v", b, got, e, want, wantE)
	}
}

// checkRead holds Decode against the words of 20.3, and what it reads against what Encode writes of it.
func checkRead(t *testing.T, b []byte) {
	t.Helper()
	p, e := read(b)
	checkDecode(t, b, p, e)
	if e == api.OK {
		checkEncode(t, p, b, api.OK)
	}
}

// times is a byte so many times, and what comes behind.
func times(c byte, n int, behind ...byte) []byte {
	return append(bytes.Repeat([]byte{c}, n), behind...)
}

// parts are the byte 83 and what comes behind.
func parts(l ...[]byte) []byte { return append([]byte{83}, slices.Concat(l...)...) }

// Promise 20.3: the example, and each error where it stands first.
func TestBytesExamples(t *testing.T) {
	c := h(5)
	p := api.Reach{Size: 3, To: 2, Nodes: []api.Hash{c}}
	checkEncode(t, p, append([]byte{0x53, 3, 0, 2}, c[:]...), api.OK)
	checkDecode(t, append([]byte{0x53, 3, 0, 2}, c[:]...), p, api.OK)
	checkDecode(t, []byte{0x53, 0, 0, 0}, api.Reach{}, api.OK)
	checkDecode(t, []byte{0x53, 3, 0, 3}, api.Reach{Size: 3, To: 3}, api.OK)
	checkDecode(t, append([]byte{0x53, 1, 1, 0}, c[:]...), api.Reach{Size: 1, From: 1, To: 1, Nodes: []api.Hash{c}}, api.OK)
	for _, x := range []struct {
		b []byte
		e api.Errno
	}{
		{nil, api.ErrCut}, {[]byte{}, api.ErrCut}, {[]byte{0x4e}, api.ErrKind}, {[]byte{0x52, 3, 0, 3}, api.ErrKind}, {[]byte{0x53}, api.ErrCut}, {[]byte{0x53, 3}, api.ErrCut}, {[]byte{0x53, 3, 0}, api.ErrCut}, {[]byte{0x53, 3, 0, 2}, api.ErrCut}, {[]byte{0x53, 1, 0, 0}, api.ErrCut},
		{[]byte{0x53, 3, 4, 0}, api.ErrIndex}, {[]byte{0x53, 3, 4}, api.ErrIndex}, {[]byte{0x53, 3, 0, 4}, api.ErrIndex}, {[]byte{0x53, 3, 2, 2}, api.ErrIndex}, {[]byte{0x53, 3, 3, 1}, api.ErrIndex}, {[]byte{0x53, 0, 0, 1}, api.ErrIndex}, {[]byte{0x53, 0, 1, 0}, api.ErrIndex},
		{[]byte{0x53, 0, 0, 0, 0}, api.ErrTail}, {[]byte{0x53, 3, 0, 3, 0}, api.ErrTail},
		{[]byte{0x53, 0x80, 0}, api.ErrForm}, {[]byte{0x53, 3, 0x80, 0}, api.ErrForm}, {[]byte{0x53, 3, 0, 0x80, 0}, api.ErrForm}, {[]byte{0x53, 0x80}, api.ErrCut}, {[]byte{0x53, 3, 0x80}, api.ErrCut}, {[]byte{0x53, 3, 0, 0x80}, api.ErrCut},
		{times(255, 10), api.ErrKind}, {parts(times(255, 10)), api.ErrRange}, {parts(groups(3), times(255, 10)), api.ErrRange}, {parts(groups(3), groups(1), times(128, 10)), api.ErrRange}, {parts(groups(3), groups(1), times(255, 9, 2)), api.ErrRange}, {parts(groups(far)), api.ErrSize}, {parts(groups(3), groups(far)), api.ErrIndex}, {parts(groups(3), groups(1), groups(far)), api.ErrIndex},
	} {
		checkDecode(t, x.b, api.Reach{}, x.e)
		checkRead(t, x.b)
	}
}

// Promise 20.3, rule R2: each error ahead of those that stand behind it.
func TestDecodeTellsTheFirst(t *testing.T) {
	ill := [][]byte{nil, times(255, 10), {0x80, 0}, {0x80}, groups(far)}
	for _, n := range beyond() {
		for _, b := range ill {
			checkDecode(t, parts(groups(n), b), api.Reach{}, api.ErrSize)
			checkDecode(t, parts(groups(n), groups(n+1), b), api.Reach{}, api.ErrSize)
			checkDecode(t, parts(groups(n), groups(0), b), api.Reach{}, api.ErrSize)
		}
		checkDecode(t, parts(groups(n), groups(0), groups(n)), api.Reach{}, api.ErrSize)
	}
	for _, n := range []uint64{0, 1, 7, most} {
		checkDecode(t, parts(groups(n)), api.Reach{}, api.ErrCut)
		checkDecode(t, parts(groups(n), groups(n)), api.Reach{}, api.ErrCut)
		for _, b := range ill {
			checkRead(t, parts(groups(n), b))
			checkRead(t, parts(groups(n), groups(n), b))
			// A span that begins behind the end is told ahead of what is wrong with how long it is.
			for _, from := range []uint64{n + 1, n + 200, most + 1, 1 << 63, far} {
				checkDecode(t, parts(groups(n), groups(from), b), api.Reach{}, api.ErrIndex)
			}
		}
		for _, nodes := range [][]byte{nil, make([]byte, 31), make([]byte, 32), make([]byte, 4000)} {
			checkDecode(t, parts(groups(n), groups(0), groups(n+1), nodes), api.Reach{}, api.ErrIndex)
			checkDecode(t, parts(groups(n), groups(n), groups(1), nodes), api.Reach{}, api.ErrIndex)
		}
	}
}

// Promise 20.3: From and what To is above it, which together may be more than 64 bits hold, and then be a small number.
func TestDecodeOfGreatSpans(t *testing.T) {
	for _, n := range []uint64{1, 5, 7, 1 << 32, most - 1, most} {
		for _, from := range []uint64{1, n / 2, n - 1, n} {
			for _, above := range []uint64{n - from + 1, n, most, 1 << 63, -from - 1, -from, -from + 1, n - from - n, far - 1, far} {
				b := parts(groups(n), groups(from), groups(above))
				if above > n-from {
					checkDecode(t, b, api.Reach{}, api.ErrIndex)
					checkDecode(t, append(b, make([]byte, 32)...), api.Reach{}, api.ErrIndex)
				}
				checkRead(t, b)
			}
		}
	}
}

// Promises 20.3 and 20.7: every span of every small size, and of great ones, there and back; cut off at each length, and
// with bytes more at the end.
func TestThereAndBack(t *testing.T) {
	for _, r := range spansUpTo(28) {
		checkBytes(t, anyProof(r, 5))
	}
	for _, n := range []uint64{128, 129, 300, 1 << 14, 1<<32 + 1, most - 1, most} {
		for k, r := range someOf(n) {
			if k%23 == 0 {
				checkBytes(t, anyProof(r, 5))
			}
		}
	}
}

func checkBytes(t *testing.T, p api.Reach) {
	t.Helper()
	b := bytesOf(p)
	checkEncode(t, p, b, api.OK)
	checkDecode(t, b, p, api.OK)
	step := 1 + len(b)/500
	for k := 0; k < len(b); k += step {
		checkDecode(t, b[:k], api.Reach{}, api.ErrCut)
	}
	for _, tail := range [][]byte{{0}, {1}, {255}, {83}, make([]byte, 31), make([]byte, 32), make([]byte, 33), b} {
		checkDecode(t, slices.Concat(b, tail), api.Reach{}, api.ErrTail)
	}
}

// Promises 20.3 and 20.7: what bytes read as of which one bit is turned: refused, or another proof, as the words say.
func TestDecodeOfTurnedBytes(t *testing.T) {
	l := spansUpTo(9)
	for _, n := range []uint64{300, most} {
		l = append(l, someOf(n)...)
	}
	for _, r := range l {
		p := anyProof(r, 8)
		b := bytesOf(p)
		front := len(b) - 32*len(p.Nodes)
		for bit := range 8 * len(b) {
			if bit/8 > front+1 && bit%397 > 0 {
				continue
			}
			b[bit/8] ^= 1 << (bit % 8)
			checkRead(t, b)
			if got, e := span.Decode(b); e == api.OK && same(got, p) {
				t.Fatalf("Decode(%x) doesn't see the bit %d", b, bit)
			}
			b[bit/8] ^= 1 << (bit % 8)
		}
	}
}

// Promise 20.3: every first byte, ahead of good bytes and of bytes that are wrong in other ways.
func TestDecodeKinds(t *testing.T) {
	for first := range 256 {
		for _, behind := range [][]byte{nil, {0, 0, 0}, {1, 0, 1}, {0x80, 0}, {2, 0, 1}, {5, 6, 0}, {5, 1, 5}, times(255, 10)} {
			b := append([]byte{byte(first)}, behind...)
			if first != 83 {
				checkDecode(t, b, api.Reach{}, api.ErrKind)
			}
			checkRead(t, b)
		}
	}
}

// forms are numbers in bytes: right ones, longer forms, cut off ones, too great ones.
func forms() [][]byte {
	var l [][]byte
	for _, x := range []uint64{0, 1, 2, 3, 7, 127, 128, 1 << 32, most - 1, most, most + 1, 1 << 63, far} {
		b := groups(x)
		longer := slices.Clone(b)
		longer[len(longer)-1] += 128
		l = append(l, b, append(slices.Clone(longer), 0), longer)
	}
	return append(l, nil, times(128, 9), times(255, 9), times(128, 10), times(255, 10), times(255, 9, 2), times(128, 9, 2), times(128, 10, 1))
}

// Promises 20.3 and 20.7: such numbers at each place, with as many bytes behind as nodes have, fewer and more.
func TestDecodeNumbers(t *testing.T) {
	for _, x := range forms() {
		for _, y := range forms() {
			for _, long := range []int{0, 1, 31, 32, 33, 64, 96, 32 * 62, 4000} {
				nodes := make([]byte, long)
				checkRead(t, parts(x, y, nodes))
				for _, z := range [][]byte{{0}, {1}, {2}, groups(most - 1)} {
					checkRead(t, parts(x, y, z, nodes))
				}
				checkRead(t, parts(groups(7), x, y, nodes))
				checkRead(t, parts(groups(most), x, y, nodes))
			}
		}
	}
}

// Promises 20.3 and 20.7: all short lists of some bytes, alone and ahead of some nodes.
func TestDecodeShortBytes(t *testing.T) {
	some := []byte{0, 1, 2, 3, 5, 83, 127, 128, 129, 255}
	last := [][]byte{{83}}
	for range 5 {
		var next [][]byte
		for _, b := range last {
			for count := range 3 {
				checkRead(t, slices.Concat(b, plain(hashes(4, count))))
			}
			for _, c := range some {
				next = append(next, append(slices.Clone(b), c))
			}
		}
		last = next
	}
}

// Promises 20.3 and 20.7: proofs in which some bytes are turned, put in or taken out.
func TestDecodeSpoiledBytes(t *testing.T) {
	d := dice(7)
	for range 10000 {
		n := d.next(400)
		to := d.next(n + 1)
		b := bytesOf(anyProof(reach{d.next(to + 1), to, n}, d.next(99)))
		for range 1 + d.next(3) {
			at := int(d.next(uint64(min(len(b), 12)) + 1))
			if d.next(3) == 0 {
				at = int(d.next(uint64(len(b)) + 1))
			}
			b = spoiled(b, at, &d)
		}
		checkRead(t, b)
	}
}

// spoiled is bytes with another one, one more, or one less, at a place.
func spoiled(b []byte, at int, d *dice) []byte {
	c := byte(d.next(256))
	switch {
	case at == len(b):
		return append(b, c)
	case d.next(2) == 0:
		b[at] ^= 1 << (c % 8)
		return b
	case c%2 == 0:
		return slices.Insert(b, at, c)
	}
	return slices.Delete(b, at, at+1)
}

// Promise 20.3, rule R2: Places' errors, ahead of a wrong number of nodes; each other number of nodes.
func TestEncodeOfWrongProofs(t *testing.T) {
	for _, r := range wrongSpans() {
		for _, count := range []int{0, 1, 3} {
			checkEncode(t, withNodes(r, hashes(1, count)), nil, wrongSpan(r))
		}
	}
	for _, r := range spansUpTo(18) {
		right := len(needs(r))
		for count := range right + 3 {
			p := withNodes(r, hashes(2, count))
			if count == right {
				checkEncode(t, p, bytesOf(p), api.OK)
			} else {
				checkEncode(t, p, nil, api.ErrCount)
			}
		}
	}
	middle := reach{1<<61 - 1, 1<<61 + 1, most}
	checkEncode(t, withNodes(middle, hashes(0, 121)), nil, api.ErrCount)
	checkEncode(t, withNodes(middle, hashes(0, 123)), nil, api.ErrCount)
	checkEncode(t, withNodes(middle, hashes(0, 122)), bytesOf(withNodes(middle, hashes(0, 122))), api.OK)
}

// Rule R3: bytes and proofs that are handed in stay as they are, and what lies behind them is neither read nor written;
// what is answered is apart from them and from other answers.
func TestBytesAreNew(t *testing.T) {
	for _, r := range spansUpTo(11) {
		p := anyProof(r, 3)
		want := bytesOf(p)
		checkEncodedIsNew(t, p, want)
		checkDecodedIsNew(t, p, want)
	}
}

func checkEncodedIsNew(t *testing.T, p api.Reach, want []byte) {
	t.Helper()
	q := p
	q.Nodes = behind(p.Nodes, h(1), h(2))
	a, _ := span.Encode(q)
	b, _ := span.Encode(q)
	clear(a[:cap(a)])
	if !bytes.Equal(b, want) || !slices.Equal(q.Nodes[:len(p.Nodes)+2], append(slices.Clone(p.Nodes), h(1), h(2))) {
		t.Fatalf("Encode(%v): %x has become %x", p, want, b)
	}
	clear(q.Nodes)
	if !bytes.Equal(b, want) {
		t.Fatalf("Encode(%v): %x has become %x", p, want, b)
	}
}

func checkDecodedIsNew(t *testing.T, p api.Reach, want []byte) {
	t.Helper()
	room := append(slices.Clone(want), times(9, 70)...)
	c, _ := span.Decode(room[:len(want)])
	d, _ := span.Decode(room[:len(want)])
	if !bytes.Equal(room, append(slices.Clone(want), times(9, 70)...)) {
		t.Fatalf("Decode: %x has become %x", want, room)
	}
	clear(room)
	_ = append(c.Nodes, h(7))
	clear(c.Nodes[:cap(c.Nodes)])
	if !same(d, p) || !bytes.Equal(room, make([]byte, len(room))) {
		t.Fatalf("Decode(%x) has become %v", want, d)
	}
	checkDecode(t, want, p, api.OK)
}

// Promise 20.3: of cut bytes nothing is read that lies behind their length.
func TestDecodeReadsNothingBehind(t *testing.T) {
	p := anyProof(reach{2, 5, 300}, 3)
	b := bytesOf(p)
	for k := range b {
		checkDecode(t, b[:k], api.Reach{}, api.ErrCut)
	}
	checkDecode(t, slices.Concat(b, b)[:len(b)], p, api.OK)
}
