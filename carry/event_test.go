package carry_test

import (
	"bytes"
	"math/bits"
	"slices"
	"testing"

	"massif/api"
	"massif/carry"
)

func checkEncode(t *testing.T, ev api.Event, want []byte, wantE api.Errno) {
	t.Helper()
	if got, e := carry.EncodeEvent(ev); !bytes.Equal(got, want) || e != wantE {
		t.Fatalf("EncodeEvent(%v) is %x, %v, want %x, %v", ev, got, e, want, wantE)
	}
}

func checkDecode(t *testing.T, b []byte, want api.Event, wantE api.Errno) {
	t.Helper()
	if got, e := carry.DecodeEvent(b); !sameEvent(got, want) || e != wantE {
		t.Fatalf("DecodeEvent(%x) is %v, %v, want %v, %v", b, got, e, want, wantE)
	}
}

// checkRead holds DecodeEvent against the words of 12.7, and what it reads against what EncodeEvent writes of it.
func checkRead(t *testing.T, b []byte) {
	t.Helper()
	ev, e := read(b)
	checkDecode(t, b, ev, e)
	if e == api.OK {
		checkEncode(t, ev, b, api.OK)
	}
}

// groups is a number in groups of 7 bits, by the words of 1.7.
func groups(x uint64) []byte {
	if x < 128 {
		return []byte{byte(x)}
	}
	return append([]byte{byte(x%128) + 128}, groups(x/128)...)
}

// number reads such a number, by the words of 1.7.
func number(b []byte) (uint64, int, api.Errno) {
	long := slices.IndexFunc(b[:min(len(b), 10)], func(c byte) bool { return c < 128 }) + 1
	switch {
	case long == 0 && len(b) < 10:
		return 0, 0, api.ErrCut
	case long == 0 || long == 10 && b[9] > 1:
		return 0, 0, api.ErrRange
	case long > 1 && b[long-1] == 0:
		return 0, 0, api.ErrForm
	}
	x := uint64(0)
	for _, c := range slices.Backward(b[:long]) {
		x = x*128 + uint64(c%128)
	}
	return x, long, api.OK
}

// bytesOf is an event in bytes, whether it is right or not.
func bytesOf(ev api.Event) []byte {
	b := append([]byte{69}, groups(ev.Size)...)
	for _, x := range append([]api.Hash{ev.Leaf}, ev.Peaks...) {
		b = append(b, x[:]...)
	}
	return b
}

// read is what DecodeEvent is to tell, by the words of 12.7.
func read(b []byte) (api.Event, api.Errno) {
	if len(b) == 0 {
		return api.Event{}, api.ErrCut
	}
	if b[0] != 69 {
		return api.Event{}, api.ErrKind
	}
	n, long, e := number(b[1:])
	if e != api.OK {
		return api.Event{}, e
	}
	rest := b[1+long:]
	want := 32 * (1 + bits.OnesCount64(n))
	switch {
	case n >= most:
		return api.Event{}, api.ErrSize
	case len(rest) < want:
		return api.Event{}, api.ErrCut
	case len(rest) > want:
		return api.Event{}, api.ErrTail
	}
	ev := api.Event{Size: n, Leaf: api.Hash(rest)}
	for at := 32; at < want; at += 32 {
		ev.Peaks = append(ev.Peaks, api.Hash(rest[at:]))
	}
	return ev, api.OK
}

// anyEvent is one of a size, with hashes that fit nothing.
func anyEvent(n, first uint64) api.Event {
	return api.Event{Size: n, Leaf: h(first + 999), Peaks: anyPeaks(n, first)}
}

// sizes are small and great ones of which there can be an event.
func sizes() []uint64 {
	l := slices.DeleteFunc(great(), func(n uint64) bool { return n == most })
	for n := range uint64(140) {
		l = append(l, n)
	}
	return l
}

// times is a byte so many times, and what comes behind.
func times(c byte, n int, behind ...byte) []byte {
	return append(bytes.Repeat([]byte{c}, n), behind...)
}

// parts are the byte 69 and what comes behind.
func parts(l ...[]byte) []byte { return append([]byte{69}, slices.Concat(l...)...) }

// The examples of chapter 12, and an event by hand.
func TestEventExamples(t *testing.T) {
	a, b, c := h(1), h(2), h(3)
	checkEncode(t, api.Event{Leaf: a}, append([]byte{0x45, 0}, a[:]...), api.OK)
	checkEncode(t, api.Event{Size: 1, Leaf: a}, nil, api.ErrCount)
	want := slices.Concat([]byte{0x45, 3}, a[:], b[:], c[:])
	checkEncode(t, api.Event{Size: 3, Leaf: a, Peaks: []api.Hash{b, c}}, want, api.OK)
	checkDecode(t, want, api.Event{Size: 3, Leaf: a, Peaks: []api.Hash{b, c}}, api.OK)
	want = slices.Concat([]byte{0x45, 0x80, 2}, c[:], a[:])
	checkEncode(t, api.Event{Size: 256, Leaf: c, Peaks: []api.Hash{a}}, want, api.OK)
	checkDecode(t, want, api.Event{Size: 256, Leaf: c, Peaks: []api.Hash{a}}, api.OK)
}

// Promises 12.7 and 12.10: events there and back; cut off at each length, and with bytes more at the end.
func TestEventsThereAndBack(t *testing.T) {
	for _, n := range sizes() {
		ev := anyEvent(n, n%1000)
		b := bytesOf(ev)
		checkEncode(t, ev, b, api.OK)
		checkDecode(t, b, ev, api.OK)
		for k := range b {
			checkDecode(t, b[:k:k], api.Event{}, api.ErrCut)
			checkDecode(t, b[:k], api.Event{}, api.ErrCut) // the bytes that lack lie behind its length
		}
		for last := range 256 {
			checkDecode(t, append(slices.Clone(b), byte(last)), api.Event{}, api.ErrTail)
		}
		for _, tail := range [][]byte{make([]byte, 31), make([]byte, 32), make([]byte, 33), b} {
			checkDecode(t, slices.Concat(b, tail), api.Event{}, api.ErrTail)
		}
	}
}

// Promises 12.7 and 12.10: what bytes read as of which one bit is turned: refused, or another event, as the words say.
func TestDecodeOfTurnedBits(t *testing.T) {
	for _, n := range sizes() {
		ev := anyEvent(n, n%1000)
		b := bytesOf(ev)
		for bit := range 8 * len(b) {
			if bit > 8*(12+32) && bit%41 > 0 {
				continue
			}
			b[bit/8] ^= 1 << (bit % 8)
			checkRead(t, b)
			if got, e := carry.DecodeEvent(b); e == api.OK && sameEvent(got, ev) {
				t.Fatalf("DecodeEvent(%x) doesn't see the bit %d", b, bit)
			}
			b[bit/8] ^= 1 << (bit % 8)
		}
	}
}

// Promises 12.7 and 12.10: each byte ahead of the hashes, and some of theirs, turned into each other one.
func TestDecodeOfTurnedBytes(t *testing.T) {
	for _, n := range []uint64{0, 1, 2, 3, 7, 127, 128, 300, 1 << 14, 1<<32 + 1, most - 1} {
		b := bytesOf(anyEvent(n, 3))
		for at := range min(len(b), 14) {
			was := b[at]
			for c := range 256 {
				b[at] = byte(c)
				checkRead(t, b)
			}
			b[at] = was
		}
	}
}

// Promise 12.7: EncodeEvent with a size of MaxLeaves and more, whatever the peaks are; with too few and too many peaks.
func TestEncodeRefused(t *testing.T) {
	for _, n := range append(beyond(), most) {
		for _, k := range []int{0, 1, 2, 62, 63, 64, bits.OnesCount64(n)} {
			checkEncode(t, api.Event{Size: n, Leaf: h(1), Peaks: hashes(0, k)}, nil, api.ErrSize)
		}
	}
	for _, n := range sizes() {
		for k := range 66 {
			ev := api.Event{Size: n, Leaf: h(1), Peaks: hashes(0, k)}
			if k == bits.OnesCount64(n) {
				checkEncode(t, ev, bytesOf(ev), api.OK)
			} else {
				checkEncode(t, ev, nil, api.ErrCount)
			}
		}
	}
}

// Promise 12.7: each error of DecodeEvent, ahead of those behind it.
func TestDecodeRefused(t *testing.T) {
	for _, x := range []struct {
		b []byte
		e api.Errno
	}{
		{nil, api.ErrCut}, {[]byte{}, api.ErrCut}, {[]byte{0x46}, api.ErrKind}, {[]byte{0}, api.ErrKind}, {[]byte{0x4d, 1, 0}, api.ErrKind}, {times(255, 10), api.ErrKind}, {[]byte{0x45}, api.ErrCut}, {[]byte{0x45, 0x80}, api.ErrCut}, {[]byte{0x45, 0x80, 0}, api.ErrForm}, {[]byte{0x45, 0x83, 0}, api.ErrForm}, {parts([]byte{0x83, 0x80, 0}, make([]byte, 96)), api.ErrForm},
		{parts(times(255, 10)), api.ErrRange}, {parts(times(128, 10)), api.ErrRange}, {parts(times(255, 9, 2)), api.ErrRange}, {parts(times(128, 9, 2)), api.ErrRange}, {parts(times(128, 9)), api.ErrCut}, {parts(times(128, 9, 0)), api.ErrForm}, {parts(times(128, 9, 1)), api.ErrSize}, {parts(times(255, 9, 1)), api.ErrSize},
		{parts(groups(most)), api.ErrSize}, {parts(groups(most), make([]byte, 64)), api.ErrSize}, {parts(groups(most), make([]byte, 65)), api.ErrSize}, {parts(groups(most + 1)), api.ErrSize}, {parts(groups(far), make([]byte, 65*32)), api.ErrSize},
		{parts(groups(most - 1)), api.ErrCut}, {parts(groups(most-1), make([]byte, 63*32-1)), api.ErrCut}, {parts(groups(most-1), make([]byte, 63*32+1)), api.ErrTail}, {parts(groups(0), make([]byte, 31)), api.ErrCut}, {parts(groups(0), make([]byte, 33)), api.ErrTail}, {parts(groups(0)), api.ErrCut}, {parts(groups(1), make([]byte, 32)), api.ErrCut}, {parts(groups(2), make([]byte, 96)), api.ErrTail},
	} {
		checkDecode(t, x.b, api.Event{}, x.e)
		checkRead(t, x.b)
	}
	checkDecode(t, parts(groups(most-1), make([]byte, 63*32)), api.Event{Size: most - 1, Peaks: make([]api.Hash, 62)}, api.OK)
	for _, n := range append(beyond(), most) {
		for _, long := range []int{0, 1, 32, 64, 32 * (1 + bits.OnesCount64(n)), 4000} {
			checkDecode(t, parts(groups(n), make([]byte, long)), api.Event{}, api.ErrSize)
		}
	}
}

// Promise 12.7: every first byte, ahead of good bytes and of bytes that are wrong in other ways.
func TestDecodeKinds(t *testing.T) {
	for first := range 256 {
		for _, behind := range [][]byte{nil, bytesOf(anyEvent(3, 0))[1:], {0x80, 0}, {3}, times(255, 10), groups(most), make([]byte, 33), make([]byte, 34)} {
			b := append([]byte{byte(first)}, behind...)
			if first != 69 {
				checkDecode(t, b, api.Event{}, api.ErrKind)
			}
			checkRead(t, b)
		}
	}
}

// Promises 12.7 and 12.10: numbers of all forms, right ones, longer ones, cut off ones and too great ones, with as many
// bytes behind as hashes have, fewer and more.
func TestDecodeNumbers(t *testing.T) {
	forms := [][]byte{nil, times(128, 9), times(255, 9), times(128, 10), times(255, 10), times(255, 9, 2), times(128, 9, 2), times(128, 10, 1)}
	for _, x := range []uint64{0, 1, 2, 3, 7, 127, 128, 129, 300, 1 << 32, most - 1, most, most + 1, 1 << 63, far} {
		longer := groups(x)
		longer[len(longer)-1] += 128
		forms = append(forms, groups(x), append(slices.Clone(longer), 0), longer)
	}
	for _, x := range forms {
		for _, long := range []int{0, 1, 31, 32, 33, 63, 64, 65, 95, 96, 97, 128, 32 * 62, 32 * 63, 32 * 64, 32 * 65, 4000} {
			checkRead(t, parts(x, make([]byte, long)))
			checkRead(t, parts(x, times(200, long)))
		}
	}
}

// Promises 12.7 and 12.10: all short lists of some bytes, alone and ahead of some hashes.
func TestDecodeShortBytes(t *testing.T) {
	some := []byte{0, 1, 2, 3, 5, 69, 127, 128, 129, 255}
	last := [][]byte{nil}
	for range 5 {
		var next [][]byte
		for _, b := range last {
			for count := range 4 {
				checkRead(t, parts(b, times(7, 32*count)))
			}
			checkRead(t, b)
			for _, c := range some {
				next = append(next, append(slices.Clone(b), c))
			}
		}
		last = next
	}
}

// Promise 12.10: an event that came through bytes does what it did.
func TestEventsThroughBytes(t *testing.T) {
	leaves := hashes(7, 100)
	whole := tree(t, 32, leaves)
	f, m := flocked(t, 32, 0, nil)
	c, _ := carried(t, 32, leaves[0], api.Proof{Size: 1})
	for n, ev := range events(32, leaves) {
		b, e := carry.EncodeEvent(ev)
		same(t, "through bytes", "EncodeEvent", e, api.OK)
		back, e := carry.DecodeEvent(b)
		same(t, "through bytes", "DecodeEvent", e, api.OK)
		checkFlock(t, "through bytes", f, m, back, n%5 == 0)
		if n > 0 {
			same(t, "through bytes", "On", c.On(back), api.OK)
		}
		checkOfTree(t, 32, c, whole, leaves[0], 0, uint64(n)+1)
	}
}
