package num_test

import (
	"math"
	"math/big"
)

const all = uint64(math.MaxUint64)

// numbers are the edges of 64 bits and of bytes and groups, and some that a plain rule scatters between them.
func numbers() []uint64 {
	l := []uint64{0, 1, 2, 3, 5, 40, 255, 300, 0xabcd, 0x0102030405060708, 0xaaaaaaaaaaaaaaaa, all}
	for i := range 64 {
		p := uint64(1) << i
		l = append(l, p, p-1, p+1, ^p)
	}
	x := uint64(1)
	for range 64 {
		x = x*6364136223846793005 + 1442695040888963407
		l = append(l, x^x>>29)
	}
	return l
}

// counts are those of shifts and turns: all near 0, those round the multiples of 64, and both ends of int.
func counts() []int {
	l := []int{math.MinInt, math.MinInt + 1, math.MinInt + 63, math.MinInt + 64, math.MaxInt, math.MaxInt - 1, math.MaxInt - 63, math.MaxInt - 64, math.MinInt32, math.MaxInt32, 1 << 32, -1 << 32, 1<<32 + 1, 255, 256, 257, -255, -256, -257}
	for n := -130; n <= 130; n++ {
		l = append(l, n)
	}
	return l
}

// few are counts for where three things are chosen at once.
func few() []int {
	return []int{math.MinInt, -65, -64, -63, -9, -1, 0, 1, 4, 7, 31, 32, 62, 63, 64, 65, math.MaxInt}
}

// scaled is x times 2 to the n, rounded down, from exact numbers. Beyond 200 bits up or down the outcome is that of 200, modulo 2 to the 64.
func scaled(x *big.Int, n int) *big.Int {
	n = max(-200, min(200, n))
	if n >= 0 {
		return new(big.Int).Mul(x, power(n))
	}
	// With a divisor above 0, Div of package big rounds down.
	return new(big.Int).Div(x, power(-n))
}

func power(n int) *big.Int { return new(big.Int).Lsh(big.NewInt(1), uint(n)) }

// modulo is the number of so many bits, with a sign or without one, that is x modulo 2 to the bits.
func modulo(x *big.Int, bits int, sign bool) *big.Int {
	r := new(big.Int).Mod(x, power(bits))
	if sign && r.Cmp(power(bits-1)) >= 0 {
		r.Sub(r, power(bits))
	}
	return r
}

// bit is the bit of x at a place.
func bit(x uint64, place int) uint64 { return x / (1 << place) % 2 }

// placed is the number with each bit of x where to says that it stands.
func placed(x uint64, to func(place int) int) uint64 {
	sum := uint64(0)
	for i := range 64 {
		sum += bit(x, i) * (1 << to(i))
	}
	return sum
}
