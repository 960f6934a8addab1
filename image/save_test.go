package image_test

import (
	"bytes"
	"fmt"
	"slices"
	"testing"

	"massif/api"
	"massif/image"
	"massif/keep"
)

// checkSave holds what Save writes against the words of 16.1.
func checkSave(t *testing.T, when string, k *keep.Keep) {
	t.Helper()
	sameBytes(t, when, "Save", image.Save(k), bytesOf(k))
}

// The examples of chapter 16.
func TestExamples(t *testing.T) {
	k, _ := keep.New(2, 3)
	k.Append(api.Hash{7})
	b := slices.Concat([]byte{0x49, 2, 3, 1, 1, 0, 7}, make([]byte, 31), []byte{0})
	sameBytes(t, "one leaf", "Save", image.Save(k), b)
	sameKeep(t, "one leaf", loaded(t, "one leaf", b), k)
	k = loaded(t, "no leaves", []byte{0x49, 2, 3, 0, 0, 0})
	same(t, "no leaves", "Width", k.Width(), 2)
	same(t, "no leaves", "Log", k.Log(), 3)
	same(t, "no leaves", "Size", k.Size(), 0)
	for _, behind := range [][]byte{nil, {3, 0, 0, 0}, b[3:], times(255, 20)} {
		refused(t, "a width of 0", append([]byte{0x49, 0}, behind...), api.ErrArg, 1)
		refused(t, "a width of 33", append([]byte{0x49, 0x21}, behind...), api.ErrArg, 1)
		refused(t, "a log of 17", append([]byte{0x49, 2, 0x11}, behind...), api.ErrArg, 2)
		refused(t, "a place above all", append([]byte{0x49, 2, 3, 1, 1, 1}, behind...), api.ErrPlace, 5)
	}
	refused(t, "no peak", []byte{0x49, 2, 3, 1, 0, 0}, api.ErrPruned, 0)
	refused(t, "a byte more", []byte{0x49, 2, 3, 0, 0, 0, 0}, api.ErrTail, 6)
	refused(t, "cut off", []byte{0x49, 2, 3}, api.ErrCut, 3)
}

// Promise 16.1: images by hand: the nodes that live, and pins in numbers of one byte and of more.
func TestSaveByHand(t *testing.T) {
	k := pinned(t, 32, 4, 7, true, 1) // 0, 5, 6, 9 and 10 live
	for range 299 {
		k.Pin(1)
	}
	k.Pin(6)
	want := []byte{73, 32, 4, 7, 5}
	for j, p := range []uint64{0, 5, 6, 9, 10} {
		h, _ := k.Node(p)
		want = append(append(want, []byte{0, 4, 0, 2, 0}[j]), h[:]...)
	}
	want = append(want, 2, 1, 0xac, 2, 4, 1) // 300 pins of the leaf 1, one of the leaf 6
	sameBytes(t, "7 leaves", "Save", image.Save(k), want)
	sameKeep(t, "7 leaves", loaded(t, "7 leaves", want), k)

	k = pinned(t, 1, 16, 200, true, 199)
	b := image.Save(k)
	sameBytes(t, "200 leaves", "the beginning", b[:5], []byte{73, 1, 16, 0xc8, 1})
	// 397 nodes; 254 is the peak over 128 leaves, 381 the one over 64; of the last 8 leaves all siblings on the way live.
	sameList(t, "200 leaves", "Live", k.Live(), []uint64{254, 381, 388, 391, 392, 396})
	sameBytes(t, "200 leaves", "the first place", b[5:8], []byte{6, 0xfe, 1})
	sameBytes(t, "200 leaves", "the second place", b[40:41], []byte{126})
	sameBytes(t, "200 leaves", "the end", b[len(b)-4:], []byte{1, 0xc7, 1, 1})
	checkSave(t, "200 leaves", k)
}

// Promise 16.1: of a nil keep no bytes; nil and empty ones are one.
func TestSaveNil(t *testing.T) {
	same(t, "nil", "how many bytes there are", len(image.Save(nil)), 0)
	if k, e, at := image.Load(image.Save(nil)); k != nil || e != api.ErrCut || at != 0 {
		t.Errorf("Load of no bytes is %v, %v, %d", k, e, at)
	}
}

// Promise 16.1: keeps without leaves, of every width and log, of widths that count as another one, and one that nobody
// made.
func TestSaveEmpty(t *testing.T) {
	for w := -2; w < 36; w++ {
		for log := range 17 {
			k := of(t, w, log, 0)
			sameBytes(t, "no leaves", "Save", image.Save(k), []byte{73, byte(min(max(w, 1), 32)), byte(log), 0, 0, 0})
		}
	}
	sameBytes(t, "as it is declared", "Save", image.Save(&keep.Keep{}), []byte{73, 1, 0, 0, 0, 0})
}

// Promise 16.1: small keeps, byte by byte.
func TestSaveSmall(t *testing.T) {
	for _, k := range small(t, 40) {
		checkSave(t, fmt.Sprintf("%d leaves of the width %d", k.Size(), k.Width()), k)
	}
}

// Promise 16.1: keeps to which all kinds of things were done, after each of them.
func TestSaveGrown(t *testing.T) {
	for seed := range 40 {
		for moves := range 40 {
			checkSave(t, fmt.Sprintf("run %d, %d moves", seed, moves), grown(t, seed, moves))
		}
	}
}

// Promise 16.1: nodes that were installed stand there as they were handed in, wrong ones too; leaves' hashes likewise,
// with bytes behind the width.
func TestSaveInstalled(t *testing.T) {
	for n := range 12 {
		for more := range 9 {
			for _, w := range []int{1, 32} {
				k, right := of(t, w, 2, n), of(t, w, 2, n)
				l := leaves(90, more)
				same(t, "installed", "Install", k.Install(made(k, l), uint64(more)), api.OK)
				for _, x := range l {
					right.Append(x)
				}
				sameBytes(t, "installed", "Save", image.Save(k), image.Save(right))
				checkSave(t, "installed", k)
				odd := of(t, w, 2, n)
				same(t, "installed", "Install", odd.Install(leaves(5, len(made(odd, l))), uint64(more)), api.OK)
				checkSave(t, "installed, and wrong", odd)
			}
		}
	}
}

// Promise 16.1: sizes, places, indices and pins as great as they can be.
func TestSaveGreat(t *testing.T) {
	for _, n := range great() {
		for log := 0; log <= 16; log += 8 {
			checkSave(t, "just peaks", thin(t, 32, log, n))
			checkSave(t, "some pins", thin(t, 32, log, n, 0, n/3, n-1))
		}
	}
	h := leaf(1<<63 - 2)
	b := slices.Concat([]byte{73, 32, 5}, times(128, 8, 64), []byte{1}, times(254, 1), times(255, 7, 127), h[:], []byte{0})
	sameBytes(t, "all leaves", "Save", image.Save(thin(t, 32, 5, most)), b)
	sameKeep(t, "all leaves", loaded(t, "all leaves", b), thin(t, 32, 5, most))
}

// Promise 16.1: from 0 pins to 2^30, through every number of bytes.
func TestSavePins(t *testing.T) {
	for _, c := range []int{1, 2, 127, 128, 129, 16383, 16384, 1<<21 - 1, 1 << 21, 1<<28 - 1, 1 << 28, full - 1, full} {
		x := partsOf(of(t, 32, 0, 3))
		x.pins = map[uint64]int{0: c, 2: 1}
		k, e, _ := x.from()
		same(t, "pins", "From", e, api.OK)
		checkSave(t, "pins", k)
		if b := image.Save(k); !bytes.HasSuffix(b, slices.Concat([]byte{2, 0}, groups(uint64(c)), []byte{1, 1})) {
			t.Fatalf("%d pins: Save is %x", c, b)
		}
		same(t, "pins", "Unpin", k.Unpin(2), api.OK)
		if b := image.Save(k); !bytes.HasSuffix(b, slices.Concat([]byte{1, 0}, groups(uint64(c)))) {
			t.Fatalf("%d pins: Save is %x", c, b)
		}
	}
	k := pinned(t, 32, 0, 3, false, 1)
	k.Unpin(1)
	sameBytes(t, "a pin that was taken away", "Save", image.Save(k), image.Save(of(t, 32, 0, 3)))
}
