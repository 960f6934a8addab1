package hash

import (
	"math/bits"

	"massif/api"
)

const (
	blockLen = 64 // bytes of a block
	wordLen  = 4  // bytes of a word
)

// rounds are the first 32 bits behind the point of the cube roots of the first 64 primes.
var rounds = [64]uint32{
	0x428a2f98, 0x71374491, 0xb5c0fbcf, 0xe9b5dba5, 0x3956c25b, 0x59f111f1, 0x923f82a4, 0xab1c5ed5,
	0xd807aa98, 0x12835b01, 0x243185be, 0x550c7dc3, 0x72be5d74, 0x80deb1fe, 0x9bdc06a7, 0xc19bf174,
	0xe49b69c1, 0xefbe4786, 0x0fc19dc6, 0x240ca1cc, 0x2de92c6f, 0x4a7484aa, 0x5cb0a9dc, 0x76f988da,
	0x983e5152, 0xa831c66d, 0xb00327c8, 0xbf597fc7, 0xc6e00bf3, 0xd5a79147, 0x06ca6351, 0x14292967,
	0x27b70a85, 0x2e1b2138, 0x4d2c6dfc, 0x53380d13, 0x650a7354, 0x766a0abb, 0x81c2c92e, 0x92722c85,
	0xa2bfe8a1, 0xa81a664b, 0xc24b8b70, 0xc76c51a3, 0xd192e819, 0xd6990624, 0xf40e3585, 0x106aa070,
	0x19a4c116, 0x1e376c08, 0x2748774c, 0x34b0bcb5, 0x391c0cb3, 0x4ed8aa4a, 0x5b9cca4f, 0x682e6ff3,
	0x748f82ee, 0x78a5636f, 0x84c87814, 0x8cc70208, 0x90befffa, 0xa4506ceb, 0xbef9a3f7, 0xc67178f2,
}

// Compress is one step of the hash.
func Compress(w int, state api.Hash, block [64]byte) api.Hash {
	s := words(state)
	a, b, c, d, e, f, g, h := s[0], s[1], s[2], s[3], s[4], s[5], s[6], s[7]
	spread := schedule(block)
	for t := range spread {
		t1 := h + mix(e, 6, 11, 25) + choose(e, f, g) + rounds[t] + spread[t]
		t2 := mix(a, 2, 13, 22) + majority(a, b, c)
		h, g, f, e, d, c, b, a = g, f, e, d+t1, c, b, a, t1+t2
	}
	for i, x := range [8]uint32{a, b, c, d, e, f, g, h} {
		s[i] += x
	}
	return narrow(w, joined(s))
}

// schedule is the block's words, and those that follow from them.
func schedule(block [64]byte) [64]uint32 {
	var x [64]uint32
	for t := range 16 {
		x[t] = word(block[wordLen*t:])
	}
	for t := 16; t < 64; t++ {
		x[t] = spill(x[t-2], 17, 19, 10) + x[t-7] + spill(x[t-15], 7, 18, 3) + x[t-16]
	}
	return x
}

// mix is x turned right by i, by j and by k bits, in one.
func mix(x uint32, i, j, k int) uint32 { return right(x, i) ^ right(x, j) ^ right(x, k) }

// spill is x turned right by i and by j bits and shifted right by k, in one.
func spill(x uint32, i, j, k int) uint32 { return right(x, i) ^ right(x, j) ^ x>>k }

func right(x uint32, n int) uint32 { return bits.RotateLeft32(x, -n) }

func choose(x, y, z uint32) uint32 { return x&y ^ ^x&z }

func majority(x, y, z uint32) uint32 { return x&y ^ x&z ^ y&z }

// word is the number in the first bytes of b, the highest first.
func word(b []byte) uint32 {
	return uint32(b[0])<<24 | uint32(b[1])<<16 | uint32(b[2])<<8 | uint32(b[3])
}

func words(state api.Hash) [8]uint32 {
	var s [8]uint32
	for i := range s {
		s[i] = word(state[wordLen*i:])
	}
	return s
}

func joined(s [8]uint32) api.Hash {
	var state api.Hash
	for i, x := range s {
		at := wordLen * i
		state[at], state[at+1], state[at+2], state[at+3] = byte(x>>24), byte(x>>16), byte(x>>8), byte(x)
	}
	return state
}

// narrow is h with the bytes behind the width w made 0.
func narrow(w int, h api.Hash) api.Hash {
	clear(h[min(max(w, 1), len(h)):])
	return h
}
