package hash_test

import (
	"math"
	"math/big"
	"strings"
	"testing"

	"massif/api"
)

// The hash once more, slowly: words are numbers of math/big or rows of bits, the constants are worked out from the primes.

// word32 is a word as its 32 bits, the highest first.
type word32 [32]bool

func fromNumber(n uint64) word32 {
	var x word32
	for i := range x {
		x[31-i] = n%2 == 1
		n /= 2
	}
	return x
}

func (x word32) number() uint64 {
	n := uint64(0)
	for _, set := range x {
		n *= 2
		if set {
			n++
		}
	}
	return n
}

func added(xs ...word32) word32 {
	n := uint64(0)
	for _, x := range xs {
		n = (n + x.number()) % (1 << 32)
	}
	return fromNumber(n)
}

func (x word32) rotr(n int) word32 {
	var y word32
	for i := range x {
		y[(i+n)%32] = x[i]
	}
	return y
}

func (x word32) shr(n int) word32 {
	var y word32
	copy(y[n:], x[:32-n])
	return y
}

func xor(xs ...word32) word32 {
	var y word32
	for _, x := range xs {
		for i := range y {
			y[i] = y[i] != x[i]
		}
	}
	return y
}

func ch(x, y, z word32) word32 {
	for i, set := range x {
		if set {
			z[i] = y[i]
		}
	}
	return z
}

func maj(x, y, z word32) word32 {
	var m word32
	for i := range m {
		votes := 0
		for _, set := range []bool{x[i], y[i], z[i]} {
			if set {
				votes++
			}
		}
		m[i] = votes >= 2
	}
	return m
}

func primes(n int) []int64 {
	var ps []int64
	for p := int64(2); len(ps) < n; p++ {
		prime := true
		for _, q := range ps {
			prime = prime && p%q != 0
		}
		if prime {
			ps = append(ps, p)
		}
	}
	return ps
}

// rootBits are the first 32 bits behind the point of the root of p of that degree, by halving.
func rootBits(p, degree int64) word32 {
	// The root times 2^32, rounded down, is the greatest x with x^degree at most p 2^(32 degree).
	goal := new(big.Int).Lsh(big.NewInt(p), uint(32*degree))
	low, high := big.NewInt(0), new(big.Int).Lsh(big.NewInt(p), 32)
	for low.Cmp(high) < 0 {
		mid := new(big.Int).Add(low, high)
		mid.Add(mid, big.NewInt(1)).Rsh(mid, 1)
		if new(big.Int).Exp(mid, big.NewInt(degree), nil).Cmp(goal) <= 0 {
			low = mid
		} else {
			high = mid.Sub(mid, big.NewInt(1))
		}
	}
	return fromNumber(new(big.Int).Mod(low, big.NewInt(1<<32)).Uint64())
}

type model struct {
	width int
	cubes []word32
}

func newModel(w int) *model {
	m := &model{width: w}
	for _, p := range primes(64) {
		m.cubes = append(m.cubes, rootBits(p, 3))
	}
	return m
}

func wordsOf(b []byte) []word32 {
	var ws []word32
	for ; len(b) > 0; b = b[4:] {
		ws = append(ws, fromNumber(uint64(b[0])*1<<24+uint64(b[1])*1<<16+uint64(b[2])*1<<8+uint64(b[3])))
	}
	return ws
}

// state is the words' bytes, those behind the width 0.
func (m *model) state(ws []word32) api.Hash {
	var h api.Hash
	for i := range 32 {
		if i < m.width || i == 0 {
			h[i] = byte(ws[i/4].number() >> (24 - 8*(i%4)))
		}
	}
	return h
}

// start is the state ahead of the first block: from the square roots of the first primes.
func (m *model) start() api.Hash {
	var ws []word32
	for _, p := range primes(8) {
		ws = append(ws, rootBits(p, 2))
	}
	return m.state(ws)
}

func (m *model) step(state api.Hash, block [64]byte) api.Hash {
	w := wordsOf(block[:])
	for t := 16; t < 64; t++ {
		s0 := xor(w[t-15].rotr(7), w[t-15].rotr(18), w[t-15].shr(3))
		s1 := xor(w[t-2].rotr(17), w[t-2].rotr(19), w[t-2].shr(10))
		w = append(w, added(s1, w[t-7], s0, w[t-16]))
	}
	v := wordsOf(state[:])
	for t := range 64 {
		s0 := xor(v[0].rotr(2), v[0].rotr(13), v[0].rotr(22))
		s1 := xor(v[4].rotr(6), v[4].rotr(11), v[4].rotr(25))
		t1 := added(v[7], s1, ch(v[4], v[5], v[6]), m.cubes[t], w[t])
		t2 := added(s0, maj(v[0], v[1], v[2]))
		v = []word32{added(t1, t2), v[0], v[1], v[2], added(v[3], t1), v[4], v[5], v[6]}
	}
	for i, old := range wordsOf(state[:]) {
		v[i] = added(v[i], old)
	}
	return m.state(v)
}

// blocks are those of a text, with what stands behind it.
func blocks(text string) [][64]byte {
	whole := text + "\x80"
	for len(whole)%64 != 56 {
		whole += "\x00"
	}
	for i := 7; i >= 0; i-- {
		whole += string([]byte{byte(8 * uint64(len(text)) >> (8 * i))})
	}
	var bs [][64]byte
	for ; whole != ""; whole = whole[64:] {
		bs = append(bs, [64]byte([]byte(whole[:64])))
	}
	return bs
}

// states are those ahead of each block, and the hash behind them.
func (m *model) states(text string) []api.Hash {
	all := []api.Hash{m.start()}
	for i, b := range blocks(text) {
		all = append(all, m.step(all[i], b))
	}
	return all
}

func (m *model) sum(text string) api.Hash {
	all := m.states(text)
	return all[len(all)-1]
}

// lengths are those at which blocks begin, end, or have no room for the length any more.
func lengths() []int {
	return []int{0, 1, 2, 3, 4, 31, 54, 55, 56, 57, 62, 63, 64, 65, 66, 118, 119, 120, 121, 127, 128, 129, 182, 183, 184, 191, 192, 193, 300}
}

// ordinary is a text of n bytes, of which no two blocks are the same.
func ordinary(n int) string {
	var b strings.Builder
	for i := range n {
		b.WriteByte(byte(i*i/3 + 7*i + n))
	}
	return b.String()
}

// widths are all that differ, and those outside with the width that they count as.
func widths() map[int]int {
	ws := map[int]int{0: 1, -1: 1, -32: 1, math.MinInt: 1, math.MinInt + 1: 1, 33: 32, 34: 32, 64: 32, 256: 32, 1 << 32: 32, math.MaxInt: 32}
	for w := 1; w <= 32; w++ {
		ws[w] = w
	}
	return ws
}

func TestModelConstants(t *testing.T) {
	m := newModel(32)
	if m.cubes[0].number() != 0x428a2f98 || m.cubes[63].number() != 0xc67178f2 || m.cubes[30].number() != 0x06ca6351 {
		t.Error("the model's constants are not the document's")
	}
}
