package script

import (
	"strconv"
	"strings"

	"massif/api"
)

// digits are those of Hex, each at its value.
const digits = "0123456789abcdef"

func decimal(x uint64) string { return strconv.FormatUint(x, 10) }

func hex(b []byte) string {
	var s strings.Builder
	s.Grow(2 + 2*len(b)) // an image is long
	s.WriteString("0x")
	for _, x := range b {
		s.WriteByte(digits[x>>4])
		s.WriteByte(digits[x&15])
	}
	return s.String()
}

func hexOf(h api.Hash) string { return hex(h[:]) }

// row is a word, and behind it all of a list.
func row[T any](word string, list []T, written func(T) string) string {
	var s strings.Builder
	s.WriteString(word)
	for _, x := range list {
		s.WriteByte(' ')
		s.WriteString(written(x))
	}
	return s.String()
}

// proofOf is what is told of a proof that was made, in bytes.
func proofOf(b []byte, e api.Errno) (string, api.Errno) { return "proof " + hex(b), e }
