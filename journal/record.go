package journal

import (
	"slices"

	"massif/api"
	"massif/hash"
	"massif/num"
)

// ofJournal says of what the bytes are, in the first of them.
const ofJournal = 74

// What a record tells, in the first byte of its text.
const (
	ofAppend = 65
	ofBatch  = 66
	ofPin    = 80
	ofPrune  = 82
	ofUnpin  = 85
)

const (
	headLen  = 3               // neither the width nor the log needs more than a byte
	hashLen  = len(api.Hash{}) // a width goes up to it
	checkLen = 4
	mostText = 1 + hashLen*api.MaxBatch // bytes of a record's text
)

// check is what stands behind a text, for who reads to see whether it is what was written.
type check [checkLen]byte

func checkOf(text []byte) check {
	sum := hash.Sum(hashLen, text)
	return check(sum[:checkLen])
}

// head is what stands ahead of all records.
func (j *Journal) head() []byte {
	w, log := num.Short(uint64(j.keep.Width())), num.Short(uint64(j.keep.Log()))
	return slices.Concat([]byte{ofJournal}, w, log)
}

// write puts a record behind the others.
func (j *Journal) write(of byte, rest []byte) {
	text := slices.Concat([]byte{of}, rest)
	c := checkOf(text)
	j.records = append(j.records, num.Short(uint64(len(text)))...)
	j.records = append(j.records, text...)
	j.records = append(j.records, c[:]...)
}

// record reads one from the front of b: its text, and how many bytes all of it has. The error is torn, if b ends too early:
// in the number, of which chapter 1 says the same, or behind it.
func record(b []byte) ([]byte, int, api.Errno) {
	from, to, e := extent(b)
	if e != api.OK {
		return nil, 0, e
	}
	if len(b) < to+checkLen {
		return nil, 0, torn
	}
	text := b[from:to]
	if check(b[to:to+checkLen]) != checkOf(text) {
		return nil, 0, api.ErrCheck
	}
	return text, to + checkLen, api.OK
}

// extent is where the text of the record at the front of b begins and ends, as its number tells, whether it is all there
// or not.
func extent(b []byte) (from, to int, e api.Errno) {
	long, from, e := within(b, 1, uint64(mostText))
	return from, from + long, e
}

// within reads a number that must be low, high or between from the front of b, and tells how many bytes it had.
func within(b []byte, low, high uint64) (int, int, api.Errno) {
	x, n, e := num.Long(b)
	if e != api.OK {
		return 0, 0, e
	}
	if x < low || x > high {
		return 0, 0, api.ErrArg
	}
	return int(x), n, api.OK
}

// joined are the bytes of leaves.
func joined(leaves []api.Hash) []byte {
	b := make([]byte, 0, hashLen*len(leaves))
	for _, leaf := range leaves {
		b = append(b, leaf[:]...)
	}
	return b
}

// parted are the leaves whose bytes joined makes.
func parted(b []byte) []api.Hash {
	leaves := make([]api.Hash, 0, len(b)/hashLen)
	for leaf := range slices.Chunk(b, hashLen) {
		leaves = append(leaves, api.Hash(leaf))
	}
	return leaves
}
