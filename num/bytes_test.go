package num_test

import (
	"bytes"
	"math"
	"math/big"
	"slices"
	"testing"

	"massif/api"
	"massif/num"
)

// Promise 1.6: the examples and the edges.
func TestBigExamples(t *testing.T) {
	for _, c := range []struct {
		x uint64
		n int
		b []byte
		e api.Errno
	}{
		{258, 2, []byte{1, 2}, api.OK}, {258, 1, nil, api.ErrRange}, {258, 3, []byte{0, 1, 2}, api.OK}, {0, 0, nil, api.OK}, {1, 0, nil, api.ErrRange}, {all, 0, nil, api.ErrRange},
		{0, 1, []byte{0}, api.OK}, {255, 1, []byte{255}, api.OK}, {256, 1, nil, api.ErrRange}, {0, 8, make([]byte, 8), api.OK},
		{1<<56 - 1, 7, bytes.Repeat([]byte{255}, 7), api.OK}, {1 << 56, 7, nil, api.ErrRange}, {all, 7, nil, api.ErrRange}, {all, 8, bytes.Repeat([]byte{255}, 8), api.OK},
		{0, -1, nil, api.ErrArg}, {0, 9, nil, api.ErrArg}, {all, -1, nil, api.ErrArg}, {all, 9, nil, api.ErrArg}, {5, math.MinInt, nil, api.ErrArg}, {5, math.MaxInt, nil, api.ErrArg}, {5, 1 << 61, nil, api.ErrArg},
	} {
		if b, e := num.Big(c.x, c.n); !bytes.Equal(b, c.b) || e != c.e {
			t.Errorf("Big(%d, %d) is %x, %d; want %x, %d", c.x, c.n, b, e, c.b, c.e)
		}
	}
}

// Promise 1.6: held against exact numbers.
func TestBigIsExact(t *testing.T) {
	for _, x := range numbers() {
		exact := new(big.Int).SetUint64(x)
		for n := range 9 {
			b, e := num.Big(x, n)
			if exact.Cmp(power(8*n)) >= 0 {
				if e != api.ErrRange || len(b) != 0 {
					t.Errorf("Big(%d, %d) is %x, %d", x, n, b, e)
				}
				continue
			}
			if want := exact.FillBytes(make([]byte, n)); e != api.OK || !bytes.Equal(b, want) {
				t.Errorf("Big(%d, %d) is %x, %d; want %x", x, n, b, e, want)
			}
		}
	}
}

// Promise 1.6: numbers from bytes.
func TestFromBig(t *testing.T) {
	for _, c := range []struct {
		b []byte
		x uint64
		e api.Errno
	}{
		{nil, 0, api.OK}, {[]byte{}, 0, api.OK}, {[]byte{0}, 0, api.OK}, {[]byte{7}, 7, api.OK}, {[]byte{1, 2}, 258, api.OK}, {[]byte{0, 0, 1, 2}, 258, api.OK},
		{[]byte{1, 2, 3, 4, 5, 6, 7, 8}, 0x0102030405060708, api.OK}, {bytes.Repeat([]byte{255}, 8), all, api.OK},
		{make([]byte, 9), 0, api.ErrLong}, {bytes.Repeat([]byte{255}, 9), 0, api.ErrLong}, {append(make([]byte, 8), 1), 0, api.ErrLong}, {bytes.Repeat([]byte{255}, 1000), 0, api.ErrLong},
	} {
		if x, e := num.FromBig(c.b); x != c.x || e != c.e {
			t.Errorf("FromBig(%x) is %d, %d; want %d, %d", c.b, x, e, c.x, c.e)
		}
	}
}

// Promise 1.7: the examples and the edges.
func TestShortExamples(t *testing.T) {
	for _, c := range []struct {
		x uint64
		b []byte
	}{
		{0, []byte{0}}, {1, []byte{1}}, {127, []byte{0x7f}}, {128, []byte{0x80, 1}}, {300, []byte{0xac, 2}}, {16383, []byte{0xff, 0x7f}}, {16384, []byte{0x80, 0x80, 1}},
		{1<<63 - 1, append(bytes.Repeat([]byte{255}, 8), 127)}, {1 << 63, append(bytes.Repeat([]byte{128}, 9), 1)}, {all, append(bytes.Repeat([]byte{255}, 9), 1)},
	} {
		if b := num.Short(c.x); !bytes.Equal(b, c.b) {
			t.Errorf("Short(%d) is %x, want %x", c.x, b, c.b)
		}
	}
}

// groups is x in groups of 7 bits, by dividing.
func groups(x uint64) []byte {
	var b []byte
	for {
		rest := byte(x % 128)
		x /= 128
		if x == 0 {
			return append(b, rest)
		}
		b = append(b, rest+128)
	}
}

// Promise 1.7: as many groups as needed, from one to ten.
func TestShortGroups(t *testing.T) {
	for k := 1; k <= 10; k++ {
		low := uint64(1) << (7 * (k - 1))
		high := num.Mask(7 * k)
		if len(num.Short(low)) != k || len(num.Short(high)) != k {
			t.Errorf("%d groups: %x, %x", k, num.Short(low), num.Short(high))
		}
	}
	for _, x := range numbers() {
		if b := num.Short(x); !bytes.Equal(b, groups(x)) {
			t.Errorf("Short(%d) is %x, want %x", x, b, groups(x))
		}
	}
}

// Promise 1.7: what Long reads, and what it refuses.
func TestLongExamples(t *testing.T) {
	times := func(c byte, n int, last ...byte) []byte { return append(bytes.Repeat([]byte{c}, n), last...) }
	for _, c := range []struct {
		b []byte
		x uint64
		n int
		e api.Errno
	}{
		{[]byte{0xac, 2, 7}, 300, 2, api.OK}, {[]byte{0}, 0, 1, api.OK}, {[]byte{0, 0}, 0, 1, api.OK}, {[]byte{0x7f, 0x80}, 127, 1, api.OK}, {[]byte{0x80, 1}, 128, 2, api.OK}, {[]byte{0x80, 0x80, 1}, 16384, 3, api.OK},
		{times(255, 8, 127), 1<<63 - 1, 9, api.OK}, {times(255, 9, 1), all, 10, api.OK}, {times(128, 9, 1), 1 << 63, 10, api.OK}, {times(128, 9, 1, 255, 255), 1 << 63, 10, api.OK},
		{nil, 0, 0, api.ErrCut}, {[]byte{}, 0, 0, api.ErrCut}, {[]byte{0x80}, 0, 0, api.ErrCut}, {[]byte{0x81, 0xff}, 0, 0, api.ErrCut}, {times(255, 9), 0, 0, api.ErrCut}, {times(128, 9), 0, 0, api.ErrCut},
		{times(255, 10), 0, 0, api.ErrRange}, {times(128, 10), 0, 0, api.ErrRange}, {times(128, 10, 0), 0, 0, api.ErrRange}, {times(128, 10, 1), 0, 0, api.ErrRange}, {times(255, 11), 0, 0, api.ErrRange},
		{times(255, 9, 2), 0, 0, api.ErrRange}, {times(128, 9, 2), 0, 0, api.ErrRange}, {times(128, 9, 127), 0, 0, api.ErrRange}, {times(128, 9, 64), 0, 0, api.ErrRange}, {times(128, 9, 3), 0, 0, api.ErrRange},
		{[]byte{0x80, 0}, 0, 0, api.ErrForm}, {[]byte{0xff, 0, 1}, 0, 0, api.ErrForm}, {times(128, 8, 0), 0, 0, api.ErrForm}, {times(255, 9, 0), 0, 0, api.ErrForm}, {times(128, 9, 0), 0, 0, api.ErrForm},
	} {
		if x, n, e := num.Long(c.b); x != c.x || n != c.n || e != c.e {
			t.Errorf("Long(%x) is %d, %d, %d; want %d, %d, %d", c.b, x, n, e, c.x, c.n, c.e)
		}
	}
}

// long reads by the words of promise 1.7, with exact numbers.
func long(b []byte) (uint64, int, api.Errno) {
	front := b[:min(10, len(b))]
	last := slices.IndexFunc(front, func(c byte) bool { return c < 128 })
	if last < 0 && len(b) < 10 {
		return 0, 0, api.ErrCut
	}
	if last < 0 {
		return 0, 0, api.ErrRange
	}
	sum := new(big.Int)
	for i := last; i >= 0; i-- {
		sum.Mul(sum, power(7))
		sum.Add(sum, big.NewInt(int64(b[i]%128)))
	}
	if sum.Cmp(power(64)) >= 0 {
		return 0, 0, api.ErrRange
	}
	if last > 0 && b[last] == 0 {
		return 0, 0, api.ErrForm
	}
	return sum.Uint64(), last + 1, api.OK
}

// Promises 1.7 and 1.8: every last byte behind every number of bytes ahead, and whatever behind it.
func TestLongIsExact(t *testing.T) {
	for ahead := range 13 {
		for _, fill := range []byte{0x80, 0x81, 0xaa, 0xff} {
			for last := range 256 {
				for _, behind := range [][]byte{nil, {0}, {0x80}, {1, 2, 3}} {
					b := append(bytes.Repeat([]byte{fill}, ahead), byte(last))
					b = append(b, behind...)
					x, n, e := num.Long(b)
					wx, wn, we := long(b)
					if x != wx || n != wn || e != we {
						t.Fatalf("Long(%x) is %d, %d, %d; want %d, %d, %d", b, x, n, e, wx, wn, we)
					}
					if e == api.OK && !bytes.Equal(num.Short(x), b[:n]) {
						t.Fatalf("Long read %x as %d, and Short writes %x", b[:n], x, num.Short(x))
					}
				}
			}
		}
	}
}

// Promise 1.8: Big there and back.
func TestBigThereAndBack(t *testing.T) {
	for _, x := range numbers() {
		for n := range 9 {
			b, e := num.Big(x, n)
			if e != api.OK {
				continue
			}
			if y, e := num.FromBig(b); y != x || e != api.OK {
				t.Errorf("FromBig(%x) is %d, %d; want %d", b, y, e, x)
			}
		}
		full, _ := num.Big(x, 8)
		for n := range 9 {
			y, _ := num.FromBig(full[:n])
			if b, e := num.Big(y, n); e != api.OK || !bytes.Equal(b, full[:n]) {
				t.Errorf("Big(%d, %d) is %x, %d; want %x", y, n, b, e, full[:n])
			}
		}
	}
}

// Promise 1.8: Short there and back, with whatever behind it.
func TestShortThereAndBack(t *testing.T) {
	for _, x := range numbers() {
		b := num.Short(x)
		for _, behind := range [][]byte{nil, {0}, {1}, {0x80}, {0xff, 0xff}, bytes.Repeat([]byte{0xff}, 20)} {
			if y, n, e := num.Long(append(slices.Clone(b), behind...)); y != x || n != len(b) || e != api.OK {
				t.Errorf("Long(%x, %x) is %d, %d, %d; want %d, %d", b, behind, y, n, e, x, len(b))
			}
		}
		for n := range b {
			if y, m, e := num.Long(b[:n]); y != 0 || m != 0 || e != api.ErrCut {
				t.Errorf("Long(%x) is %d, %d, %d", b[:n], y, m, e)
			}
		}
	}
}

// Rule R3: what lies behind a list's length is not read, and what is handed in is not changed.
func TestBytesHandedIn(t *testing.T) {
	room := []byte{0x81, 0x82, 1, 5, 5, 5, 5, 5, 5, 5, 5, 5}
	kept := slices.Clone(room)
	if x, n, e := num.Long(room[:2]); x != 0 || n != 0 || e != api.ErrCut {
		t.Errorf("Long read behind the end: %d, %d, %d", x, n, e)
	}
	if x, e := num.FromBig(room[:2]); x != 0x8182 || e != api.OK {
		t.Errorf("FromBig read behind the end: %d, %d", x, e)
	}
	num.Long(room)
	num.FromBig(room)
	if !bytes.Equal(room, kept) {
		t.Errorf("changed to %x", room)
	}
}

// Rule R3: lists that are answered share nothing with one another, their spare room neither.
func TestListsAreNew(t *testing.T) {
	for _, x := range numbers() {
		bits, short := num.Bits(x), num.Short(x)
		large, _ := num.Big(x, 8)
		spoil(bits)
		spoil(short)
		spoil(large)
		if !bytes.Equal(num.Short(x), groups(x)) {
			t.Errorf("Short(%d) after its answer was changed: %x", x, num.Short(x))
		}
		if again, _ := num.Big(x, 8); !bytes.Equal(again, new(big.Int).SetUint64(x).FillBytes(make([]byte, 8))) {
			t.Errorf("Big(%d, 8) after its answer was changed: %x", x, again)
		}
		sum := uint64(0)
		for _, place := range num.Bits(x) {
			sum += 1 << place
		}
		if sum != x {
			t.Errorf("Bits(%d) after its answer was changed: %v", x, num.Bits(x))
		}
	}
}

// spoil writes over a list and its spare room.
func spoil[T int | byte](l []T) {
	l = l[:cap(l)]
	for i := range l {
		l[i] = 77
	}
}
