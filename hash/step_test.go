package hash_test

import (
	"bytes"
	"testing"

	"massif/api"
	"massif/hash"
)

// someStates have all bytes set in some way: behind a narrow width, too.
func someStates() []api.Hash {
	ss := []api.Hash{{}, {0: 1}, {31: 1}, {3: 255, 4: 128}}
	for _, fill := range []byte{255, 128, 1} {
		var s api.Hash
		for i := range s {
			s[i] = fill
		}
		ss = append(ss, s)
	}
	var rising api.Hash
	for i := range rising {
		rising[i] = byte(37*i + 11)
	}
	return append(ss, rising)
}

func someBlocks() [][64]byte {
	bs := [][64]byte{{}, {0: 1}, {63: 1}, {0: 128, 60: 255}}
	var full, rising [64]byte
	for i := range full {
		full[i], rising[i] = 255, byte(91*i+5)
	}
	return append(bs, full, rising)
}

// 2.1, 2.2, 2.3
func TestCompress(t *testing.T) {
	m := newModel(32)
	for _, s := range someStates() {
		for _, b := range someBlocks() {
			if got, want := hash.Compress(32, s, b), m.step(s, b); got != want {
				t.Errorf("Compress(32, %x, %x): %x, want %x", s, b, got, want)
			}
		}
	}
}

// 2.3: a width cuts the outcome alone; the whole state goes in.
func TestCompressWidths(t *testing.T) {
	for _, s := range someStates() {
		b := someBlocks()[5]
		wide := hash.Compress(32, s, b)
		for w, counts := range widths() {
			want := wide
			for i := counts; i < 32; i++ {
				want[i] = 0
			}
			if got := hash.Compress(w, s, b); got != want {
				t.Errorf("Compress(%d, %x, ..): %x, want %x", w, s, got, want)
			}
		}
	}
}

// 2.3: bytes of the state that lie behind the width tell.
func TestCompressReadsBehindTheWidth(t *testing.T) {
	for _, w := range []int{1, 2, 16, 31} {
		outcomes := map[api.Hash]int{}
		for i := range 100 {
			outcomes[hash.Compress(w, api.Hash{0: 9, 31: byte(i)}, [64]byte{})]++
		}
		if len(outcomes) < 2 {
			t.Errorf("width %d: the last byte of the state tells nothing", w)
		}
	}
}

// R3: what is handed in is not changed.
func TestCompressChangesNothing(t *testing.T) {
	s, b := someStates()[7], someBlocks()[5]
	hash.Compress(3, s, b)
	if s != someStates()[7] || b != someBlocks()[5] {
		t.Error("state or block are others now")
	}
	if hash.Compress(3, s, b) != hash.Compress(3, s, b) {
		t.Error("another answer")
	}
	if got := hash.Compress(3, s, b); !bytes.Equal(got[3:], make([]byte, 29)) {
		t.Errorf("bytes behind the width: %x", got)
	}
}
