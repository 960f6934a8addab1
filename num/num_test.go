package num_test

import (
	"math"
	"math/big"
	"slices"
	"testing"

	"massif/api"
	"massif/num"
)

// Promise 1.1: the examples and the edges.
func TestShiftExamples(t *testing.T) {
	for _, c := range []struct {
		x    uint64
		n    int
		l, r uint64
	}{
		{3, 0, 3, 3}, {3, 1, 6, 1}, {3, -1, 1, 6}, {3, 63, 1 << 63, 0}, {3, -63, 0, 1 << 63}, {3, 64, 0, 0}, {3, -64, 0, 0}, {3, 65, 0, 0},
		{all, 63, 1 << 63, 1}, {all, -63, 1, 1 << 63}, {all, 64, 0, 0}, {all, -64, 0, 0}, {0, 5, 0, 0},
		{all, math.MinInt, 0, 0}, {all, math.MinInt + 1, 0, 0}, {all, math.MaxInt, 0, 0},
	} {
		if l, r := num.Shl(c.x, c.n), num.Shr(c.x, c.n); l != c.l || r != c.r {
			t.Errorf("%d by %d: %d, %d; want %d, %d", c.x, c.n, l, r, c.l, c.r)
		}
	}
	for _, c := range []struct {
		x    int64
		n    int
		want int64
	}{
		{-3, 1, -2}, {-3, 70, -1}, {3, -63, math.MinInt64}, {-3, 0, -3}, {3, 1, 1}, {3, 63, 0}, {-1, 63, -1}, {-1, 64, -1}, {1, 64, 0},
		{math.MinInt64, 63, -1}, {math.MaxInt64, 62, 1}, {math.MinInt64, -1, 0}, {math.MaxInt64, -1, -2}, {-3, -64, 0},
		{-3, math.MinInt, 0}, {-3, math.MinInt + 1, 0}, {-3, math.MaxInt, -1}, {3, math.MaxInt, 0},
	} {
		if got := num.Sar(c.x, c.n); got != c.want {
			t.Errorf("Sar(%d, %d) is %d, want %d", c.x, c.n, got, c.want)
		}
	}
}

// Promise 1.1: held against exact numbers.
func TestShiftsAreProducts(t *testing.T) {
	for _, n := range counts() {
		// The least int has no counterpart; its neighbour shifts as far out.
		back := -max(n, math.MinInt+1)
		for _, x := range numbers() {
			plain, signed := new(big.Int).SetUint64(x), big.NewInt(int64(x))
			if got, want := num.Shl(x, n), modulo(scaled(plain, n), 64, false).Uint64(); got != want {
				t.Fatalf("Shl(%d, %d) is %d, want %d", x, n, got, want)
			}
			if got, want := num.Shr(x, n), modulo(scaled(plain, back), 64, false).Uint64(); got != want {
				t.Fatalf("Shr(%d, %d) is %d, want %d", x, n, got, want)
			}
			if got, want := num.Sar(int64(x), n), modulo(scaled(signed, back), 64, true).Int64(); got != want {
				t.Fatalf("Sar(%d, %d) is %d, want %d", int64(x), n, got, want)
			}
		}
	}
}

// Promise 1.2: each kind, its ends, and what lies just behind them.
func TestKinds(t *testing.T) {
	for _, k := range []struct {
		kind, bits int
		sign       bool
		low, high  int64
	}{
		{api.I8, 8, true, math.MinInt8, math.MaxInt8}, {api.I16, 16, true, math.MinInt16, math.MaxInt16}, {api.I32, 32, true, math.MinInt32, math.MaxInt32}, {api.I64, 64, true, math.MinInt64, math.MaxInt64},
		{api.U8, 8, false, 0, math.MaxUint8}, {api.U16, 16, false, 0, math.MaxUint16}, {api.U32, 32, false, 0, math.MaxUint32},
	} {
		xs := []int64{k.low - 1, k.low, k.low + 1, -1, 0, 1, k.high - 1, k.high, k.high + 1, math.MinInt64, math.MaxInt64}
		for _, x := range numbers() {
			xs = append(xs, int64(x))
		}
		for _, x := range xs {
			want := modulo(big.NewInt(x), k.bits, k.sign).Int64()
			if got, e := num.Narrow(x, k.kind); got != want || e != api.OK {
				t.Errorf("Narrow(%d, %d) is %d, %d; want %d", x, k.kind, got, e, want)
			}
			if got, want := num.Fits(x, k.kind), k.low <= x && x <= k.high; got != want {
				t.Errorf("Fits(%d, %d) is %v", x, k.kind, got)
			}
		}
	}
}

// Promise 1.2: the examples.
func TestKindExamples(t *testing.T) {
	for _, c := range []struct {
		x    int64
		kind int
		want int64
		fits bool
	}{
		{200, api.I8, -56, false}, {200, api.U8, 200, true}, {-1, api.U16, 65535, false}, {1<<32 + 5, api.I32, 5, false}, {-1, api.U32, math.MaxUint32, false},
	} {
		if got, e := num.Narrow(c.x, c.kind); got != c.want || e != api.OK {
			t.Errorf("Narrow(%d, %d) is %d, %d; want %d", c.x, c.kind, got, e, c.want)
		}
		if num.Fits(c.x, c.kind) != c.fits {
			t.Errorf("Fits(%d, %d) is not %v", c.x, c.kind, c.fits)
		}
	}
}

// Promise 1.2: what is no kind.
func TestNoKind(t *testing.T) {
	for _, kind := range []int{math.MinInt, -1, 0, 8, 9, 257, 1<<32 + 1, math.MaxInt} {
		for _, x := range []int64{0, 1, -1, math.MinInt64, math.MaxInt64} {
			if got, e := num.Narrow(x, kind); got != 0 || e != api.ErrArg {
				t.Errorf("Narrow(%d, %d) is %d, %d", x, kind, got, e)
			}
			if num.Fits(x, kind) {
				t.Errorf("Fits(%d, %d)", x, kind)
			}
		}
	}
}

// Promise 1.3: the examples and the edges.
func TestBitExamples(t *testing.T) {
	for _, c := range []struct {
		x               uint64
		ones, low, high int
		places          []int
	}{
		{0, 0, 64, -1, nil}, {1, 1, 0, 0, []int{0}}, {40, 2, 3, 5, []int{3, 5}}, {255, 8, 0, 7, []int{0, 1, 2, 3, 4, 5, 6, 7}}, {1 << 63, 1, 63, 63, []int{63}}, {1<<63 | 1, 2, 0, 63, []int{0, 63}},
	} {
		if o, l, h := num.Ones(c.x), num.Low(c.x), num.High(c.x); o != c.ones || l != c.low || h != c.high {
			t.Errorf("%d: %d, %d, %d; want %d, %d, %d", c.x, o, l, h, c.ones, c.low, c.high)
		}
		if got := num.Bits(c.x); !slices.Equal(got, c.places) {
			t.Errorf("Bits(%d) are %v, want %v", c.x, got, c.places)
		}
	}
	if num.Ones(all) != 64 || num.Low(all) != 0 || num.High(all) != 63 || len(num.Bits(all)) != 64 {
		t.Error("all bits")
	}
}

// Promise 1.3: held against bits that are looked at one by one.
func TestBitsAreCounted(t *testing.T) {
	for _, x := range numbers() {
		ones, low, high := 0, 64, -1
		var places []int
		for i := range 64 {
			if bit(x, i) == 0 {
				continue
			}
			ones, low, high = ones+1, min(low, i), i
			places = append(places, i)
		}
		if o, l, h := num.Ones(x), num.Low(x), num.High(x); o != ones || l != low || h != high {
			t.Errorf("%d: %d, %d, %d; want %d, %d, %d", x, o, l, h, ones, low, high)
		}
		if got := num.Bits(x); !slices.Equal(got, places) {
			t.Errorf("Bits(%d) are %v, want %v", x, got, places)
		}
	}
}

// Promise 1.4: the mask of each count.
func TestMask(t *testing.T) {
	for _, n := range counts() {
		want := uint64(0)
		for i := range 64 {
			if i < n {
				want += 1 << i
			}
		}
		if got := num.Mask(n); got != want {
			t.Errorf("Mask(%d) is %x, want %x", n, got, want)
		}
	}
	if num.Mask(3) != 7 || num.Mask(-1) != 0 || num.Mask(0) != 0 || num.Mask(63) != all>>1 || num.Mask(64) != all || num.Mask(70) != all {
		t.Error("the examples of Mask")
	}
}

// Promise 1.4: fields, by the examples and against bits that are looked at one by one.
func TestFieldAndLay(t *testing.T) {
	if num.Field(0xabcd, 4, 8) != 0xbc || num.Field(0xabcd, -4, 8) != 0xd0 || num.Field(all, 60, 9) != 15 || num.Field(all, 64, 8) != 0 || num.Field(all, 0, 0) != 0 {
		t.Error("the examples of Field")
	}
	if num.Lay(0xabcd, 4, 8, 0) != 0xa00d || num.Lay(0xabcd, 4, 8, 0xf12) != 0xa12d || num.Lay(0, 60, 9, all) != 15<<60 || num.Lay(all, -4, 8, 0) != all-15 || num.Lay(5, 2, 0, all) != 5 || num.Lay(5, 64, 64, all) != 5 || num.Lay(5, 0, 64, all) != all {
		t.Error("the examples of Lay")
	}
	xs := numbers()
	for i, x := range xs {
		y := xs[(i*37+11)%len(xs)]
		for _, at := range few() {
			for _, n := range few() {
				if got, want := num.Field(x, at, n), field(x, at, n); got != want {
					t.Fatalf("Field(%x, %d, %d) is %x, want %x", x, at, n, got, want)
				}
				if got, want := num.Lay(x, at, n, y), lay(x, at, n, y); got != want {
					t.Fatalf("Lay(%x, %d, %d, %x) is %x, want %x", x, at, n, y, got, want)
				}
			}
		}
	}
}

// field and lay take what they need bit by bit; at is brought near 0 first, where nothing is lost by it.
func field(x uint64, at, n int) uint64 {
	at = max(-100, min(100, at))
	sum := uint64(0)
	for i := range max(0, min(64, n)) {
		if from := i + at; 0 <= from && from < 64 && bit(x, from) == 1 {
			sum += 1 << i
		}
	}
	return sum
}

func lay(x uint64, at, n int, y uint64) uint64 {
	at, n = max(-100, min(100, at)), max(0, min(64, n))
	sum := uint64(0)
	for i := range 64 {
		from := i - at
		taken := bit(x, i)
		if 0 <= from && from < n {
			taken = bit(y, from)
		}
		sum += taken * (1 << i)
	}
	return sum
}

// Promise 1.5: the examples and the edges.
func TestTurnExamples(t *testing.T) {
	for _, c := range []struct {
		x    uint64
		n    int
		want uint64
	}{
		{1, -1, 1 << 63}, {1, 65, 2}, {1, 0, 1}, {1, 63, 1 << 63}, {1, 64, 1}, {3, 63, 1<<63 | 1}, {1, -63, 2}, {1, -64, 1}, {1, -65, 1 << 63}, {7, math.MinInt, 7}, {7, math.MinInt + 1, 14}, {1, math.MaxInt, 1 << 63}, {0, 5, 0}, {all, 5, all},
	} {
		if got := num.Turn(c.x, c.n); got != c.want {
			t.Errorf("Turn(%x, %d) is %x, want %x", c.x, c.n, got, c.want)
		}
	}
	if num.Rev(1) != 1<<63 || num.Rev(6) != 3<<61 || num.Rev(0) != 0 || num.Rev(all) != all {
		t.Error("Rev")
	}
	if num.Swap(1) != 1<<56 || num.Swap(0x0102030405060708) != 0x0807060504030201 || num.Swap(0) != 0 || num.Swap(all) != all {
		t.Error("Swap")
	}
}

// Promise 1.5: where each bit comes to stand.
func TestTurnsMoveEachBit(t *testing.T) {
	for i := range 64 {
		x := uint64(1) << i
		for _, n := range counts() {
			rest := (n%64 + 64) % 64
			if got, want := num.Turn(x, n), uint64(1)<<((i+rest)%64); got != want {
				t.Fatalf("Turn(%x, %d) is %x, want %x", x, n, got, want)
			}
		}
	}
	for _, x := range numbers() {
		if got, want := num.Turn(x, 13), placed(x, func(i int) int { return (i + 13) % 64 }); got != want {
			t.Errorf("Turn(%x, 13) is %x, want %x", x, got, want)
		}
		if got, want := num.Rev(x), placed(x, func(i int) int { return 63 - i }); got != want {
			t.Errorf("Rev(%x) is %x, want %x", x, got, want)
		}
		if got, want := num.Swap(x), placed(x, func(i int) int { return 8*(7-i/8) + i%8 }); got != want {
			t.Errorf("Swap(%x) is %x, want %x", x, got, want)
		}
	}
}

// Promise 1.9.
func TestFieldOfLay(t *testing.T) {
	xs := numbers()
	for i, x := range xs {
		y := xs[(i*53+7)%len(xs)]
		for at := range 65 {
			for _, n := range []int{math.MinInt, -1, 0, 1, 2, 7, 8, 33, 63, 64 - at, 64} {
				if n > 64-at {
					continue
				}
				if got, want := num.Field(num.Lay(x, at, n, y), at, n), y&num.Mask(n); got != want {
					t.Fatalf("Field of Lay(%x, %d, %d, %x) is %x, want %x", x, at, n, y, got, want)
				}
			}
		}
	}
}

// Promise 1.9.
func TestThereAndBack(t *testing.T) {
	for _, x := range numbers() {
		if got := num.Rev(num.Rev(x)); got != x {
			t.Errorf("Rev of Rev of %x is %x", x, got)
		}
		if got := num.Swap(num.Swap(x)); got != x {
			t.Errorf("Swap of Swap of %x is %x", x, got)
		}
		for _, n := range counts() {
			if n == math.MinInt {
				continue
			}
			if got := num.Turn(num.Turn(x, n), -n); got != x {
				t.Fatalf("Turn(%x, %d) and back is %x", x, n, got)
			}
		}
	}
}
