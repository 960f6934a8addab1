package clash_test

import (
	"bytes"
	"testing"

	"massif/api"
	"massif/clash"
	"massif/hash"
)

// The examples of chapter 9.
func TestHoldsExamples(t *testing.T) {
	if clash.Holds(1, api.Clash{A: []byte("a"), B: []byte("a")}) {
		t.Error("one text twice holds")
	}
	if clash.Holds(32, api.Clash{A: []byte("a"), B: []byte("b")}) {
		t.Error("two texts with unlike hashes hold")
	}
}

// texts are some of all lengths up to 300 bytes, the empty one too, no two of them the same.
func texts() [][]byte {
	var l [][]byte
	for n := range 300 {
		b := make([]byte, n)
		for k := range b {
			b[k] = byte(n * (k + 3))
		}
		l = append(l, b)
	}
	return l
}

// Promise 9.1: of two unlike texts, what their Sums say, with each width; of longer texts than any that is told, too.
func TestHoldsIsWhatSumsSay(t *testing.T) {
	l := texts()
	for _, w := range []int{-1 << 40, -1, 0, 1, 2, 3, 31, 32, 33, 1 << 40} {
		var sums []api.Hash
		for _, b := range l {
			sums = append(sums, hash.Sum(w, b))
		}
		held := 0
		for j := range l {
			for k := range l {
				want := j != k && sums[j] == sums[k]
				if j%7 != 0 && !want { // those that do not hold are many
					continue
				}
				if got := clash.Holds(w, api.Clash{A: l[j], B: l[k]}); got != want {
					t.Fatalf("Holds(%d, {%x, %x}) is %v", w, l[j], l[k], got)
				}
				if want {
					held++
				}
			}
		}
		if (held > 0) != (w <= 2) {
			t.Errorf("with the width %d %d pairs hold", w, held)
		}
	}
}

// Promise 9.1: a text beside the same one in other memory, and nil beside an empty one (R3), are not unlike.
func TestOneTextTwiceNeverHolds(t *testing.T) {
	for _, w := range []int{0, 1, 2, 32} {
		for _, b := range texts() {
			if clash.Holds(w, api.Clash{A: b, B: bytes.Clone(b)}) || clash.Holds(w, api.Clash{A: b, B: b}) {
				t.Fatalf("Holds(%d, ..) of %x twice", w, b)
			}
		}
		if clash.Holds(w, api.Clash{}) || clash.Holds(w, api.Clash{A: []byte{}}) || clash.Holds(w, api.Clash{B: []byte{}}) {
			t.Errorf("Holds(%d, ..) of nothing twice", w)
		}
	}
}

// Promise 9.1: a text that another one begins with is unlike it; what holds with one width need not with another.
func TestHoldsOfOneWidth(t *testing.T) {
	met := map[api.Hash][]byte{}
	for k := 0; ; k++ {
		b := bytes.Repeat([]byte{9}, k)
		r := hash.Sum(1, b)
		if a, ok := met[r]; ok {
			if !clash.Holds(1, api.Clash{A: a, B: b}) || !clash.Holds(1, api.Clash{A: b, B: a}) {
				t.Fatalf("Holds(1, ..) of %d and %d bytes is false", len(a), len(b))
			}
			if clash.Holds(32, api.Clash{A: a, B: b}) {
				t.Fatalf("Holds(32, ..) of %d and %d bytes is true", len(a), len(b))
			}
			return
		}
		met[r] = b
	}
}

// Rule R3: what lies behind the texts' lengths is neither read nor written.
func TestHoldsBehindTheTexts(t *testing.T) {
	a, b := []byte("abcde"), []byte("abxyz")
	if clash.Holds(1, api.Clash{A: a[:2], B: b[:2]}) {
		t.Error("texts are unlike behind their lengths")
	}
	if string(a) != "abcde" || string(b) != "abxyz" {
		t.Errorf("the texts have become %q and %q", a, b)
	}
}
