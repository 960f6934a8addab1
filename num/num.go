// Package num: whole numbers and their bits: see DOC.md, chapter 1.
package num

import (
	"math/bits"

	"massif/api"
)

// size is how many bits a number has.
const size = 64

// Shl is x times 2 to the n, rounded down, modulo 2 to the 64.
func Shl(x uint64, n int) uint64 {
	if n < 0 {
		return x >> against(n)
	}
	return x << uint(n)
}

// Shr is x by 2 to the n, rounded down, modulo 2 to the 64.
func Shr(x uint64, n int) uint64 {
	if n < 0 {
		return x << against(n)
	}
	return x >> uint(n)
}

// Sar is x by 2 to the n, rounded down, as a number of 64 bits with a sign.
func Sar(x int64, n int) int64 {
	if n < 0 {
		return x << against(n)
	}
	return x >> uint(n)
}

// against is -n, for n below 0. It is worked out without a sign, as the least int has no int against it.
func against(n int) uint { return -uint(n) }

// Narrow is x as a number of a kind, modulo 2 to its bits.
func Narrow(x int64, kind int) (int64, api.Errno) {
	// A number of one kind is a number of each wider kind with the same sign: what the next cases do leaves it as it is.
	switch kind {
	case api.I8:
		x = int64(int8(x))
		fallthrough
	case api.I16:
		x = int64(int16(x))
		fallthrough
	case api.I32:
		x = int64(int32(x))
		fallthrough
	case api.I64:
		return x, api.OK
	case api.U8:
		x = int64(uint8(x))
		fallthrough
	case api.U16:
		x = int64(uint16(x))
		fallthrough
	case api.U32:
		return int64(uint32(x)), api.OK
	}
	return 0, api.ErrArg
}

// Fits tells whether x is a number of a kind.
func Fits(x int64, kind int) bool {
	y, e := Narrow(x, kind)
	return e == api.OK && y == x
}

// Ones is how many bits of x are set.
func Ones(x uint64) int { return bits.OnesCount64(x) }

// Low is the place of the lowest set bit; 64, if none is set.
func Low(x uint64) int { return bits.TrailingZeros64(x) }

// High is the place of the highest set bit; -1, if none is set.
func High(x uint64) int { return bits.Len64(x) - 1 }

// Bits are the places of the set bits, rising.
func Bits(x uint64) []int {
	places := make([]int, 0, Ones(x))
	for ; x != 0; x &= x - 1 {
		places = append(places, Low(x))
	}
	return places
}

// Mask is the lowest n bits.
func Mask(n int) uint64 {
	if n <= 0 {
		return 0
	}
	// A shift by 64 or more leaves 0, and 0 less 1 is all bits.
	return 1<<uint(n) - 1
}

// Field is the n bits of x from the place at on.
func Field(x uint64, at, n int) uint64 { return Shr(x, at) & Mask(n) }

// Lay is x with the n bits from the place at on taken from y.
func Lay(x uint64, at, n int, y uint64) uint64 {
	there := Shl(Mask(n), at)
	return x&^there | Shl(y, at)&there
}

// Turn moves each bit up by n places, from the top round to the bottom.
func Turn(x uint64, n int) uint64 {
	// 64 divides 2 to the bits of an int, so the lowest bits of n are its remainder below 0 too.
	up := uint(n) % size
	return x<<up | x>>(size-up)
}

// Rev turns the order of the bits round.
func Rev(x uint64) uint64 { return bits.Reverse64(x) }

// Swap turns the order of the bytes round.
func Swap(x uint64) uint64 { return bits.ReverseBytes64(x) }
