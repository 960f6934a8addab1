package many_test

import (
	"bytes"
	"slices"
	"testing"

	"massif/api"
	"massif/many"
)

func checkEncode(t *testing.T, p api.Many, want []byte, wantE api.Errno) {
	t.Helper()
	if got, e := many.Encode(p); !bytes.Equal(got, want) || e != wantE {
		t.Fatalf("Encode(%v) is %x, %v, want %x, %v", p, got, e, want, wantE)
	}
}

func checkDecode(t *testing.T, b []byte, want api.Many, wantE api.Errno) {
	t.Helper()
	if got, e := many.Decode(b); !same(got, want) || e != wantE {
		t.Fatalf("Decode(%x) is %v, %v, want %v, %v", b, got, e, want, wantE)
	}
}

// checkRead holds Decode against the words of 10.4, and what it reads against what Encode writes of it.
func checkRead(t *testing.T, b []byte) {
	t.Helper()
	p, e := read(b)
	checkDecode(t, b, p, e)
	if e == api.OK {
		checkEncode(t, p, b, api.OK)
	}
}

// times is a byte so many times, and what comes behind.
func times(c byte, n int, behind ...byte) []byte {
	return append(bytes.Repeat([]byte{c}, n), behind...)
}

// parts are the byte 78 and what comes behind.
func parts(l ...[]byte) []byte { return append([]byte{78}, slices.Concat(l...)...) }

// Promise 10.4: the example, and each error where it stands first.
func TestBytesExamples(t *testing.T) {
	b := h(5)
	p := api.Many{Size: 3, Index: []uint64{0, 2}, Nodes: []api.Hash{b}}
	checkEncode(t, p, append([]byte{0x4e, 3, 2, 0, 1}, b[:]...), api.OK)
	checkDecode(t, append([]byte{0x4e, 3, 2, 0, 1}, b[:]...), p, api.OK)
	checkDecode(t, []byte{0x4e, 0, 0}, api.Many{}, api.OK)
	checkDecode(t, []byte{0x4e, 3, 3, 0, 0, 0}, api.Many{Size: 3, Index: from(0, 3)}, api.OK)
	for _, x := range []struct {
		b []byte
		e api.Errno
	}{
		{nil, api.ErrCut}, {[]byte{}, api.ErrCut}, {[]byte{0x4d}, api.ErrKind}, {[]byte{0x50, 3, 0}, api.ErrKind}, {[]byte{0x4e}, api.ErrCut}, {[]byte{0x4e, 3}, api.ErrCut}, {[]byte{0x4e, 0}, api.ErrCut}, {[]byte{0x4e, 3, 2}, api.ErrCut}, {[]byte{0x4e, 3, 2, 0}, api.ErrCut}, {[]byte{0x4e, 3, 2, 0, 1}, api.ErrCut},
		{[]byte{0x4e, 3, 1, 3}, api.ErrIndex}, {[]byte{0x4e, 3, 2, 0, 2}, api.ErrIndex}, {[]byte{0x4e, 3, 2, 2, 0}, api.ErrIndex}, {[]byte{0x4e, 0, 1, 0}, api.ErrIndex}, {[]byte{0x4e, 0, 1}, api.ErrCut},
		{[]byte{0x4e, 0, 0, 0}, api.ErrTail}, {[]byte{0x4e, 1, 1, 0, 0}, api.ErrTail}, {[]byte{0x4e, 1, 0}, api.ErrCut},
		{[]byte{0x4e, 0x80, 0}, api.ErrForm}, {[]byte{0x4e, 3, 0x80, 0}, api.ErrForm}, {[]byte{0x4e, 3, 1, 0x80, 0}, api.ErrForm}, {[]byte{0x4e, 3, 2, 0, 0x80, 0}, api.ErrForm}, {[]byte{0x4e, 0x80}, api.ErrCut}, {[]byte{0x4e, 3, 0x80}, api.ErrCut}, {[]byte{0x4e, 3, 1, 0x80}, api.ErrCut},
		{times(255, 10), api.ErrKind}, {parts(times(255, 10)), api.ErrRange}, {parts(groups(3), times(255, 10)), api.ErrRange}, {parts(groups(3), groups(1), times(128, 10)), api.ErrRange}, {parts(groups(3), groups(2), groups(0), times(255, 9, 2)), api.ErrRange},
	} {
		checkDecode(t, x.b, api.Many{}, x.e)
		checkRead(t, x.b)
	}
}

// Promise 10.4, rule R2: each error ahead of those that stand behind it.
func TestDecodeTellsTheFirst(t *testing.T) {
	ill := [][]byte{times(255, 10), {0x80, 0}, {0x80}}
	for _, n := range beyond() {
		checkDecode(t, parts(groups(n)), api.Many{}, api.ErrSize)
		for _, b := range ill {
			checkDecode(t, parts(groups(n), b), api.Many{}, api.ErrSize)
		}
		checkDecode(t, parts(groups(n), groups(1), groups(n)), api.Many{}, api.ErrSize)
	}
	for _, n := range []uint64{0, 1, 7, most} {
		checkDecode(t, parts(groups(n)), api.Many{}, api.ErrCut)
		for _, b := range ill {
			checkRead(t, parts(groups(n), b))
			checkRead(t, parts(groups(n), groups(1), b))
			// An index that is none is told ahead of what is wrong with the next one.
			checkDecode(t, parts(groups(n), groups(2), groups(n), b), api.Many{}, api.ErrIndex)
			checkDecode(t, parts(groups(n), groups(far), groups(far), b), api.Many{}, api.ErrIndex)
		}
		checkDecode(t, parts(groups(n), groups(1), groups(n), make([]byte, 4000)), api.Many{}, api.ErrIndex)
	}
	// The sum of the first and the second one is at or above a number of 64 bits.
	for _, x := range []uint64{most - 1, most, 1 << 63, far - 6, far - 5, far - 1, far} {
		checkDecode(t, parts(groups(most), groups(2), groups(5), groups(x)), api.Many{}, api.ErrIndex)
		checkDecode(t, parts(groups(7), groups(2), groups(5), groups(x)), api.Many{}, api.ErrIndex)
		checkRead(t, parts(groups(most), groups(2), groups(most-1), groups(x)))
	}
}

// Promise 10.4: how many indices are said to come is not looked at but by reading them.
func TestDecodeOfGreatNumbers(t *testing.T) {
	for _, count := range []uint64{4, 300, 1 << 31, 1 << 32, most, 1 << 63, far - 1, far} {
		checkDecode(t, parts(groups(3), groups(count)), api.Many{}, api.ErrCut)
		checkDecode(t, parts(groups(3), groups(count), make([]byte, 3)), api.Many{}, api.ErrCut)
		checkDecode(t, parts(groups(3), groups(count), make([]byte, 4)), api.Many{}, api.ErrIndex)
		checkDecode(t, parts(groups(3), groups(count), make([]byte, 400)), api.Many{}, api.ErrIndex)
		checkDecode(t, parts(groups(most), groups(count), make([]byte, 3)), api.Many{}, api.ErrCut)
		checkDecode(t, parts(groups(most), groups(count), times(255, 10)), api.Many{}, api.ErrRange)
	}
}

// Promise 10.4: many leaves that need far more nodes than there are.
func TestDecodeOfFewNodes(t *testing.T) {
	var index []uint64
	for k := range uint64(3000) {
		index = append(index, k<<40)
	}
	b := bytesOf(api.Many{Size: most, Index: index, Nodes: hashes(0, 700)})
	checkDecode(t, b, api.Many{}, api.ErrCut)
	checkEncode(t, api.Many{Size: most, Index: index, Nodes: hashes(0, 700)}, nil, api.ErrCount)
}

// Promises 10.4 and 10.9: all sets of leaves of all small sizes, there and back; cut off at each length, and with bytes
// more at the end.
func TestThereAndBack(t *testing.T) {
	for n := range uint64(8) {
		for _, index := range sets(n) {
			checkBytes(t, anyProof(index, n, 5))
		}
	}
	d := dice(6)
	for _, n := range []uint64{128, 129, 300, 1 << 14, 1<<32 + 1, most - 1, most} {
		for _, index := range someOf(n, &d) {
			checkBytes(t, anyProof(index, n, 5))
		}
	}
}

func checkBytes(t *testing.T, p api.Many) {
	t.Helper()
	b := bytesOf(p)
	checkEncode(t, p, b, api.OK)
	checkDecode(t, b, p, api.OK)
	step := 1 + len(b)/500
	for k := 0; k < len(b); k += step {
		checkDecode(t, b[:k], api.Many{}, api.ErrCut)
	}
	for _, tail := range [][]byte{{0}, {1}, {255}, {78}, make([]byte, 31), make([]byte, 32), make([]byte, 33), b} {
		checkDecode(t, slices.Concat(b, tail), api.Many{}, api.ErrTail)
	}
}

// Promises 10.4 and 10.9: what bytes read as of which one bit is turned: refused, or another proof, as the words say.
func TestDecodeOfTurnedBytes(t *testing.T) {
	d := dice(8)
	var l []api.Many
	for n := range uint64(6) {
		for _, index := range sets(n) {
			l = append(l, anyProof(index, n, 8))
		}
	}
	for _, n := range []uint64{300, most} {
		for _, index := range someOf(n, &d) {
			l = append(l, anyProof(index, n, 8))
		}
	}
	for _, p := range l {
		b := bytesOf(p)
		front := len(b) - 32*len(p.Nodes)
		for bit := range 8 * len(b) {
			if bit/8 > front+1 && bit%397 > 0 {
				continue
			}
			b[bit/8] ^= 1 << (bit % 8)
			checkRead(t, b)
			if got, e := many.Decode(b); e == api.OK && same(got, p) {
				t.Fatalf("Decode(%x) doesn't see the bit %d", b, bit)
			}
			b[bit/8] ^= 1 << (bit % 8)
		}
	}
}

// Promise 10.4: every first byte, ahead of good bytes and of bytes that are wrong in other ways.
func TestDecodeKinds(t *testing.T) {
	for first := range 256 {
		for _, behind := range [][]byte{nil, {0, 0}, {1, 1, 0}, {0x80, 0}, {2, 0}, {5, 1, 5}, times(255, 10)} {
			b := append([]byte{byte(first)}, behind...)
			if first != 78 {
				checkDecode(t, b, api.Many{}, api.ErrKind)
			}
			checkRead(t, b)
		}
	}
}

// forms are numbers in bytes: right ones, longer forms, cut off ones, too great ones.
func forms() [][]byte {
	var l [][]byte
	for _, x := range []uint64{0, 1, 2, 3, 7, 127, 128, 1 << 32, most - 1, most, most + 1, 1 << 63, far} {
		b := groups(x)
		longer := slices.Clone(b)
		longer[len(longer)-1] += 128
		l = append(l, b, append(slices.Clone(longer), 0), longer)
	}
	return append(l, nil, times(128, 9), times(255, 9), times(128, 10), times(255, 10), times(255, 9, 2), times(128, 9, 2), times(128, 10, 1))
}

// Promises 10.4 and 10.9: such numbers at each place, with as many bytes behind as nodes have, fewer and more.
func TestDecodeNumbers(t *testing.T) {
	for _, x := range forms() {
		for _, y := range forms() {
			for _, long := range []int{0, 1, 31, 32, 33, 64, 96, 32 * 62, 4000} {
				nodes := make([]byte, long)
				checkRead(t, parts(x, y, nodes))
				for _, z := range [][]byte{{0}, {1}, {2}, groups(most - 1)} {
					checkRead(t, parts(x, y, z, nodes))
				}
				for _, count := range []uint64{1, 2, 3} {
					checkRead(t, parts(groups(7), groups(count), x, y, nodes))
					checkRead(t, parts(groups(most), groups(count), x, y, nodes))
				}
			}
		}
	}
}

// Promises 10.4 and 10.9: all short lists of some bytes, alone and ahead of some nodes.
func TestDecodeShortBytes(t *testing.T) {
	some := []byte{0, 1, 2, 3, 5, 78, 127, 128, 129, 255}
	last := [][]byte{{78}}
	for range 5 {
		var next [][]byte
		for _, b := range last {
			for count := range 3 {
				checkRead(t, slices.Concat(b, plain(hashes(4, count))))
			}
			for _, c := range some {
				next = append(next, append(slices.Clone(b), c))
			}
		}
		last = next
	}
}

// Promises 10.4 and 10.9: proofs in which some bytes are turned, put in or taken out.
func TestDecodeSpoiledBytes(t *testing.T) {
	d := dice(7)
	for range 10000 {
		n := 1 + d.next(40)
		index := slices.DeleteFunc(from(0, n), func(uint64) bool { return d.next(3) > 0 })
		b := bytesOf(anyProof(index, n, d.next(99)))
		for range 1 + d.next(3) {
			at := int(d.next(uint64(min(len(b), 12)) + 1))
			if d.next(3) == 0 {
				at = int(d.next(uint64(len(b)) + 1))
			}
			b = spoiled(b, at, &d)
		}
		checkRead(t, b)
	}
}

// spoiled is bytes with another one, one more, or one less, at a place.
func spoiled(b []byte, at int, d *dice) []byte {
	c := byte(d.next(256))
	switch {
	case at == len(b):
		return append(b, c)
	case d.next(2) == 0:
		b[at] ^= 1 << (c % 8)
		return b
	case c%2 == 0:
		return slices.Insert(b, at, c)
	}
	return slices.Delete(b, at, at+1)
}

// Promise 10.4, rule R2: Places' errors, ahead of a wrong number of nodes; each other number of nodes.
func TestEncodeOfWrongProofs(t *testing.T) {
	for _, count := range []int{0, 1, 3} {
		nodes := hashes(1, count)
		for _, n := range append([]uint64{0, 1, 2, 7, most}, beyond()...) {
			for _, index := range [][]uint64{nil, {1, 1}, {2, 1}, {n}, {0, n}, {far}, {0, far, 1}, {far, far}, {n, 0}} {
				if e := wrongIndex(index, n); e != api.OK {
					checkEncode(t, api.Many{Size: n, Index: index, Nodes: nodes}, nil, e)
				}
			}
		}
	}
	for n := range uint64(8) {
		for _, index := range sets(n) {
			right := len(needs(index, n))
			for count := range right + 3 {
				p := api.Many{Size: n, Index: index, Nodes: hashes(2, count)}
				if count == right {
					checkEncode(t, p, bytesOf(p), api.OK)
				} else {
					checkEncode(t, p, nil, api.ErrCount)
				}
			}
		}
	}
	checkEncode(t, api.Many{Size: most, Index: []uint64{0, most - 1}, Nodes: hashes(0, 121)}, nil, api.ErrCount)
	checkEncode(t, api.Many{Size: most, Index: []uint64{0, most - 1}, Nodes: hashes(0, 123)}, nil, api.ErrCount)
}

// Rule R3: bytes and proofs that are handed in stay as they are, and what lies behind them is neither read nor written;
// what is answered is apart from them and from other answers.
func TestBytesAreNew(t *testing.T) {
	for n := range uint64(7) {
		for _, index := range sets(n) {
			p := anyProof(index, n, 3)
			q := api.Many{Size: n, Index: behind(index, 1, far), Nodes: behind(p.Nodes, h(1), h(2))}
			a, _ := many.Encode(q)
			b, _ := many.Encode(q)
			want := bytesOf(p)
			clear(a[:cap(a)])
			if !bytes.Equal(b, want) || !same(q, p) || q.Index[:len(index)+2][len(index)] != 1 || q.Nodes[:len(p.Nodes)+2][len(p.Nodes)] != h(1) {
				t.Fatalf("Encode(%v): %x has become %x", p, want, b)
			}
			clear(q.Index)
			clear(q.Nodes)
			if !bytes.Equal(b, want) {
				t.Fatalf("Encode(%v): %x has become %x", p, want, b)
			}

			room := append(slices.Clone(want), times(9, 70)...)
			long := len(want)
			c, _ := many.Decode(room[:long])
			d, _ := many.Decode(room[:long])
			if !bytes.Equal(room, append(slices.Clone(want), times(9, 70)...)) {
				t.Fatalf("Decode: %x has become %x", want, room)
			}
			clear(room)
			clear(c.Index[:cap(c.Index)])
			clear(c.Nodes[:cap(c.Nodes)])
			if !same(d, p) || !bytes.Equal(room, make([]byte, len(room))) {
				t.Fatalf("Decode(%x) has become %v", want, d)
			}
			checkDecode(t, want, p, api.OK)
		}
	}
}

// Promise 10.4: of cut bytes nothing is read that lies behind their length.
func TestDecodeReadsNothingBehind(t *testing.T) {
	p := anyProof([]uint64{1, 4, 5}, 9, 3)
	b := bytesOf(p)
	for k := range b {
		checkDecode(t, b[:k], api.Many{}, api.ErrCut)
	}
	checkDecode(t, slices.Concat(b, b)[:len(b)], p, api.OK)
}
