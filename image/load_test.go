package image_test

import (
	"bytes"
	"slices"
	"testing"

	"massif/api"
	"massif/image"
	"massif/pos"
)

// head is the beginning of an image, up to how many nodes live.
func head(w, log, n, count uint64) []byte {
	return slices.Concat([]byte{73}, groups(w), groups(log), groups(n), groups(count))
}

// Promise 16.2: no byte, and every first byte ahead of good bytes and of bytes that are wrong in other ways.
func TestLoadKinds(t *testing.T) {
	refused(t, "nil", nil, api.ErrCut, 0)
	refused(t, "empty", []byte{}, api.ErrCut, 0)
	refused(t, "a first byte behind the end", []byte{73, 1, 0, 0, 0, 0}[:0], api.ErrCut, 0)
	good := image.Save(pinned(t, 32, 2, 5, false, 3))
	for c := range 256 {
		for _, rest := range [][]byte{nil, good[1:], {0}, {33}, {1, 17}, times(255, 10), times(128, 9), {1, 0, 0, 0, 0, 0}} {
			b := append([]byte{byte(c)}, rest...)
			if c != 73 {
				refused(t, "another kind", b, api.ErrKind, 0)
			}
			check(t, "any kind", b)
		}
	}
}

// Promise 16.2: every width and log, and some that are far too great, with good bytes behind, with others, and with none.
func TestLoadWidthAndLog(t *testing.T) {
	rest := bytesOf(of(t, 32, 0, 3))[3:]
	for _, x := range []uint64{0, 1, 2, 15, 16, 17, 18, 31, 32, 33, 34, 64, 127, 128, 129, 255, 256, 257, 272, 288, 1<<16 + 1, 1<<32 + 1, 1<<32 + 16, 1 << 62, 1<<63 - 1, 1 << 63, 1<<63 + 1, far - 1, far} {
		for _, behind := range [][]byte{nil, rest, {0}, times(255, 30)} {
			b := slices.Concat([]byte{73}, groups(x), []byte{0}, behind)
			if x < 1 || x > 32 {
				refused(t, "no width", b, api.ErrArg, 1)
			}
			check(t, "any width", b)
			b = slices.Concat([]byte{73, 32}, groups(x), behind)
			if x > 16 {
				refused(t, "no log", b, api.ErrArg, 2)
			}
			check(t, "any log", b)
		}
	}
	for w := uint64(1); w < 33; w++ {
		for l := range uint64(17) {
			k := loaded(t, "any width and log", append(head(w, l, 0, 0), 0))
			same(t, "loaded", "Width", k.Width(), int(w))
			same(t, "loaded", "Log", k.Log(), int(l))
		}
	}
}

// Promise 16.2: sizes round MaxLeaves, with a peak and without one.
func TestLoadSizes(t *testing.T) {
	h := leaf(1)
	for _, n := range []uint64{0, 1, 2, 127, 128, 300, 1 << 32, most - 1, most, most + 1, most + 2, most << 1, 1<<63 + 1, far - 1, far} {
		for _, behind := range [][]byte{nil, {0}, {0, 0}, {0, 0, 0}, slices.Concat([]byte{1, 0}, h[:], []byte{0}), times(255, 12)} {
			b := slices.Concat([]byte{73, 32, 16}, groups(n), behind)
			if n > most {
				refused(t, "no size", b, api.ErrSize, 3)
			}
			check(t, "any size", b)
		}
		if n > 0 && n <= most {
			refused(t, "a size alone", append(head(32, 16, n, 0), 0), api.ErrPruned, 0)
		}
	}
	b := slices.Concat(head(32, 16, most, 1), groups(1<<63-2), h[:], []byte{0})
	same(t, "all leaves", "Size", loaded(t, "all leaves", b).Size(), most)
}

// Promise 16.2: a place just below Nodes(size), just that, and above, as the first one and behind another one.
func TestLoadPlaces(t *testing.T) {
	h := leaf(1)
	for _, n := range append([]uint64{0, 1, 2, 3, 4, 5, 6, 7, 8, 63, 64}, great()...) {
		end, _ := pos.Nodes(n)
		b := head(32, 3, n, 1)
		for _, above := range []uint64{end, end + 1, end + 2, 2*end + 1, 1 << 63, 1<<63 + 1, far - 1, far} {
			for _, behind := range [][]byte{nil, h[:31], h[:], append(h[:], 0)} {
				refused(t, "a place above all", slices.Concat(b, groups(above), behind), api.ErrPlace, len(b))
			}
		}
		if end == 0 {
			continue
		}
		refused(t, "the last place", slices.Concat(b, groups(end-1)), api.ErrCut, len(b)+len(groups(end-1)))
		check(t, "the last place", slices.Concat(b, groups(end-1), h[:], []byte{0}))
		for _, ahead := range []uint64{0, end / 3, end - 1} {
			c := slices.Concat(head(32, 3, n, 2), groups(ahead), h[:])
			left := end - ahead - 1 // places behind it
			for _, step := range []uint64{left, left + 1, end, 1<<63 - 1, 1 << 63, far - ahead - 1, far - ahead, far - ahead + 1, far - 1, far} {
				// Some of these run past the greatest number; far - ahead comes, wrapped round, to 0, and what is above it to
				// places that there are.
				if step < left {
					continue
				}
				for _, behind := range [][]byte{nil, h[:], append(h[:], 0)} {
					refused(t, "a step too far", slices.Concat(c, groups(step), behind), api.ErrPlace, len(c))
				}
			}
			if left > 0 {
				check(t, "a step to the last place", slices.Concat(c, groups(left-1), h[:], []byte{0}))
				refused(t, "a step to the last place", slices.Concat(c, groups(left-1)), api.ErrCut, len(c)+len(groups(left-1)))
			}
		}
	}
}

// Promise 16.2: hashes that lack some of their bytes, or all: the first, one in the midst, and the last.
func TestLoadHashes(t *testing.T) {
	l := pieces(partsOf(pinned(t, 32, 1, 6, false, 2)))
	for j, p := range l {
		if p.is != aHash {
			continue
		}
		b := joined(l[:j])
		for c := range 32 {
			refused(t, "a hash that is cut", append(slices.Clone(b), p.b[:c]...), api.ErrCut, len(b))
		}
		check(t, "a hash and nothing behind", append(slices.Clone(b), p.b...))
	}
}

// Promise 16.2: an index just below the size, just that, and above, as the first one and behind another one; indices
// whose steps run past the greatest number.
func TestLoadIndices(t *testing.T) {
	for _, n := range append([]uint64{1, 2, 3, 4, 5, 7, 8, 64}, great()...) {
		l := pieces(partsOf(thin(t, 32, 3, n, 0, n-1)))
		at := slices.IndexFunc(l, func(p piece) bool { return p.is == aLeafCount })
		b := append(joined(l[:at]), 1)
		last := loaded(t, "the last leaf", slices.Concat(b, groups(n-1), []byte{1}))
		same(t, "the last leaf", "Pins", last.Pins(n-1), 1)
		for _, i := range []uint64{n, n + 1, 2*n + 1, most, most + 1, 1 << 63, far - 1, far} {
			for _, behind := range [][]byte{nil, {1}, {0}, {1, 0}} {
				if i >= n {
					refused(t, "an index above all", slices.Concat(b, groups(i), behind), api.ErrIndex, len(b))
				}
			}
		}
		c := append(joined(l[:at]), 2, 0, 1)
		for _, step := range []uint64{n - 1, n, most, 1<<63 - 1, 1 << 63, far - 1, far} {
			for _, behind := range [][]byte{nil, {1}, {0}, {1, 0}} {
				refused(t, "a step too far", slices.Concat(c, groups(step), behind), api.ErrIndex, len(c))
			}
		}
		if n == 1 {
			continue
		}
		both := loaded(t, "a step to the last leaf", slices.Concat(c, groups(n-2), []byte{7}))
		sameList(t, "both", "Pinned", both.Pinned(), []uint64{0, n - 1})
		d := slices.Concat(joined(l[:at]), []byte{2}, groups(n-1), []byte{1})
		for _, step := range []uint64{0, 1, far - n, far - n + 1, far - n + 2, far - 1, far} {
			refused(t, "a step from the last leaf", slices.Concat(d, groups(step), []byte{1}), api.ErrIndex, len(d))
		}
	}
}

// Promise 16.2: numbers of pins round their bounds.
func TestLoadPins(t *testing.T) {
	b := append(image.Save(of(t, 32, 1, 4)), 3) // a leaf 3 that has pins
	b[len(b)-2] = 1
	for _, c := range []uint64{0, 1, 2, 127, 128, full - 1, full, full + 1, full + 2, 1 << 31, 1<<31 + 1, 1 << 32, 1<<32 + 1, 1<<32 + full, 1 << 63, 1<<63 + 1, far - 1, far} {
		x := slices.Concat(b, groups(c))
		if c < 1 || c > full {
			refused(t, "no number of pins", x, api.ErrArg, len(b))
			refused(t, "no number of pins, and a byte more", append(x, 9), api.ErrArg, len(b))
			continue
		}
		same(t, "pins", "Pins", loaded(t, "pins", x).Pins(3), int(c))
		refused(t, "pins, and a byte more", append(x, 9), api.ErrTail, len(x))
	}
	k := loaded(t, "full", slices.Concat(b, groups(full)))
	same(t, "full", "Pin", k.Pin(3), api.ErrFull)
	refused(t, "pins that lack", b, api.ErrCut, len(b))
}

// Promise 16.2: 0, 1 and all leaves with pins; one said to come that does not.
func TestLoadPinnedCounts(t *testing.T) {
	for n := range 20 {
		plain := image.Save(of(t, 32, 1, n))
		b := plain[:len(plain)-1]
		same(t, "no pins", "Pinned", len(loaded(t, "no pins", plain).Pinned()), 0)
		for count := range n + 2 {
			for coming := range n + 2 {
				x := append(slices.Clone(b), byte(count))
				for range coming {
					x = append(x, 0, 5)
				}
				switch {
				case count > n && coming > n:
					refused(t, "more than there are", x, api.ErrIndex, len(b)+1+2*n)
				case count < coming:
					refused(t, "more than were said", x, api.ErrTail, len(b)+1+2*count)
				case count > coming:
					refused(t, "fewer than were said", x, api.ErrCut, len(x))
				default:
					same(t, "some pins", "Pinned", len(loaded(t, "some pins", x).Pinned()), count)
				}
			}
		}
	}
}

// Promise 16.2: how many nodes, or leaves with pins, are said to come is not looked at but by reading them: more than
// come, fewer, and as many as a number can tell.
func TestLoadCounts(t *testing.T) {
	for n := range 20 {
		l := pieces(partsOf(of(t, 32, 1, n)))
		end, _ := pos.Nodes(uint64(n))
		rest := joined(l[5:])
		for _, count := range []uint64{0, 1, 2, 3, end - 1, end, end + 1, end + 2, 1 << 31, 1 << 40, 1<<63 - 1, 1 << 63, far - 1, far} {
			b := append(joined(l[:4]), groups(count)...)
			check(t, "so many nodes", slices.Concat(b, rest))
			if count > end && count < far-1 {
				// What comes behind the last node is read as a place, and there is none.
				refused(t, "more nodes than come", slices.Concat(b, rest), api.ErrPlace, len(b)+len(rest)-1)
				refused(t, "more nodes than come, cut", slices.Concat(b, rest[:len(rest)-1]), api.ErrCut, len(b)+len(rest)-1)
			}
			if count > 0 {
				refused(t, "nodes alone", b, api.ErrCut, len(b))
			}
			b = append(joined(l[:len(l)-1]), groups(count)...)
			if count > 0 {
				refused(t, "pins alone", b, api.ErrCut, len(b))
				check(t, "a pin", append(slices.Clone(b), 0, 1))
			}
			if count > uint64(n) {
				most := bytes.Repeat([]byte{0, 1}, n)
				refused(t, "more pins than leaves", slices.Concat(b, most, []byte{0, 1}), api.ErrIndex, len(b)+2*n)
				refused(t, "more pins than leaves, cut", slices.Concat(b, most), api.ErrCut, len(b)+2*n)
			}
		}
	}
}

// Promise 16.2: bytes behind all of it: each one, many, another image, and hashes.
func TestLoadTails(t *testing.T) {
	for _, k := range small(t, 9) {
		b := image.Save(k)
		for c := range 256 {
			refused(t, "one byte more", append(slices.Clone(b), byte(c)), api.ErrTail, len(b))
		}
		for _, tail := range [][]byte{make([]byte, 2), make([]byte, 31), make([]byte, 33), times(255, 1000), b} {
			refused(t, "more bytes", slices.Concat(b, tail), api.ErrTail, len(b))
		}
	}
}
