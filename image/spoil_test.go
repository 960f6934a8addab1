package image_test

import (
	"fmt"
	"slices"
	"testing"

	"massif/api"
	"massif/image"
	"massif/keep"
	"massif/pos"
)

// spoil is other bytes for a piece of an image, or an end within it, and what is wrong then at its first byte.
type spoil struct {
	b   []byte
	cut bool // nothing comes behind
	e   api.Errno
}

// numbers are spoils of any number.
func numbers(right []byte) []spoil {
	longer := slices.Clone(right)
	longer[len(longer)-1] += 128
	l := []spoil{
		{nil, true, api.ErrCut}, {[]byte{128}, true, api.ErrCut}, {longer, true, api.ErrCut}, {times(128, 9), true, api.ErrCut}, {times(255, 9), true, api.ErrCut},
		{append(longer, 0), false, api.ErrForm}, {[]byte{128, 0}, false, api.ErrForm}, {[]byte{255, 128, 0}, false, api.ErrForm}, {times(128, 9, 0), false, api.ErrForm},
		{times(128, 10), false, api.ErrRange}, {times(255, 10), false, api.ErrRange}, {times(255, 9, 2), false, api.ErrRange}, {times(128, 9, 127), false, api.ErrRange}, {times(128, 10, 0), false, api.ErrRange},
	}
	for c := range right {
		l = append(l, spoil{right[:c], true, api.ErrCut})
	}
	return l
}

// greater are spoils of a number that is too great from x on.
func greater(x uint64, e api.Errno) []spoil {
	var l []spoil
	for _, y := range []uint64{x, x + 1, max(x, 1<<32+1), max(x, 1<<63), far - 1, far} {
		l = append(l, spoil{groups(y), false, e})
	}
	return l
}

// spoils are those of a piece of an image of n leaves.
func spoils(p piece, n uint64) []spoil {
	end, _ := pos.Nodes(n)
	switch p.is {
	case aKind:
		return []spoil{{nil, true, api.ErrCut}, {[]byte{72}, false, api.ErrKind}, {[]byte{74}, true, api.ErrKind}, {[]byte{0}, false, api.ErrKind}, {[]byte{201}, false, api.ErrKind}, {[]byte{77}, false, api.ErrKind}}
	case aHash:
		return []spoil{{nil, true, api.ErrCut}, {p.b[:1], true, api.ErrCut}, {p.b[:31], true, api.ErrCut}}
	case aWidth:
		return slices.Concat(numbers(p.b), greater(33, api.ErrArg), []spoil{{[]byte{0}, false, api.ErrArg}, {[]byte{0}, true, api.ErrArg}})
	case aLog:
		return append(numbers(p.b), greater(17, api.ErrArg)...)
	case aSize:
		return append(numbers(p.b), greater(most+1, api.ErrSize)...)
	case aPlace:
		return append(numbers(p.b), greater(end, api.ErrPlace)...)
	case anIndex:
		return append(numbers(p.b), greater(n, api.ErrIndex)...)
	case aPinCount:
		return slices.Concat(numbers(p.b), greater(full+1, api.ErrArg), []spoil{{[]byte{0}, false, api.ErrArg}, {[]byte{0}, true, api.ErrArg}})
	}
	return numbers(p.b)
}

// spoilt are the bytes of pieces of which the one at j is spoilt, and where that one begins.
func spoilt(l []piece, j int, s spoil) ([]byte, int) {
	b := joined(l[:j])
	at := len(b)
	b = append(b, s.b...)
	if !s.cut {
		b = append(b, joined(l[j+1:])...)
	}
	return b, at
}

// Promise 16.2: each piece of an image, spoilt in each way that it can be: each number cut at each of its bytes, with
// more bytes than it needs, too great.
func TestLoadEachPiece(t *testing.T) {
	for _, k := range append(small(t, 9), thin(t, 32, 9, most, 0, 1, 2, most/3, most-1), thin(t, 5, 0, most-1, 77, most-2)) {
		l := pieces(partsOf(k))
		for j, p := range l {
			for _, s := range spoils(p, k.Size()) {
				b, at := spoilt(l, j, s)
				refused(t, fmt.Sprintf("piece %d", j), b, s.e, at)
			}
		}
	}
}

// faulty are the parts of keeps that From refuses, and what it says of them.
type faulty struct {
	x  parts
	e  api.Errno
	at int
}

// without are parts without the node at j.
func (x parts) without(j int) parts {
	x.places = slices.Delete(slices.Clone(x.places), j, j+1)
	x.nodes = slices.Delete(slices.Clone(x.nodes), j, j+1)
	return x
}

// turned are parts with a bit of the node at j turned.
func (x parts) turned(j, bit int) parts {
	x.nodes = slices.Clone(x.nodes)
	x.nodes[j][bit/8] ^= 1 << (bit % 8)
	return x
}

// with are parts with these pins.
func (x parts) with(pins map[uint64]int) parts {
	x.pins = pins
	return x
}

// faults are parts of 7 leaves with each of From's errors that bytes can lead to, and with each two of them at once, and
// with all three.
func faults(t *testing.T) []faulty {
	t.Helper()
	x := partsOf(of(t, 32, 1, 7)) // the peaks are 6, 9 and 10
	some := x.without(1)          // the leaf 0 can't be proved
	pin, none := map[uint64]int{0: 1}, map[uint64]int(nil)
	return []faulty{
		{x.without(10), api.ErrPruned, 0}, {x.without(9), api.ErrPruned, 0}, {x.without(6), api.ErrPruned, 0}, {x.without(6).without(8), api.ErrPruned, 0},
		{x.turned(2, 0), api.ErrNode, 2}, {x.turned(0, 0), api.ErrNode, 2}, {x.turned(5, 255), api.ErrNode, 5}, {x.turned(6, 9), api.ErrNode, 6}, {x.turned(9, 9), api.ErrNode, 9}, {x.turned(8, 9), api.ErrNode, 9}, {x.turned(9, 9).turned(6, 3), api.ErrNode, 6},
		{some.turned(5, 1), api.ErrNode, 5}, // what stands at 6 is at 5 in the list: that is the place which is told
		{some.turned(4, 1), api.ErrNode, 4}, {x.without(0).without(0).turned(3, 1), api.ErrNode, 3},
		{some.with(pin), api.ErrPin, 0}, {some.with(map[uint64]int{0: full, 3: 1, 6: 2}), api.ErrPin, 0}, {x.without(8).with(map[uint64]int{4: 1}), api.ErrPin, 0},
		{x.without(10).turned(2, 0), api.ErrPruned, 0}, {x.turned(0, 0).without(6), api.ErrPruned, 0}, {some.without(9).with(pin), api.ErrPruned, 0},
		{some.turned(8, 0).with(pin), api.ErrNode, 8}, {some.turned(8, 0).with(none), api.ErrNode, 8}, {some.turned(4, 0).without(9).with(pin), api.ErrPruned, 0},
	}
}

// Promise 16.2: each of From's errors, with From's place; with a byte more at the end it is that.
func TestLoadFrom(t *testing.T) {
	for j, c := range faults(t) {
		b := joined(pieces(c.x))
		refused(t, fmt.Sprintf("fault %d", j), b, c.e, c.at)
		refused(t, fmt.Sprintf("fault %d, and a byte more", j), append(b, 0), api.ErrTail, len(b))
	}
}

// Promise 16.2, rule R2: two errors at once, each pair of them: what is met first is told, and what From says last.
func TestLoadFirstError(t *testing.T) {
	x := partsOf(of(t, 32, 3, 3))
	x.pins = map[uint64]int{0: 200, 2: 1}
	l := pieces(x)
	l = append(l, piece{b: []byte{1, 2, 3}}) // a tail
	for j, p := range l[:len(l)-1] {
		for _, s := range spoils(p, x.size) {
			b, at := spoilt(l, j, s)
			refused(t, fmt.Sprintf("piece %d and a tail", j), b, s.e, at)
			for behind := j + 1; behind < len(l)-1; behind++ {
				for _, other := range spoils(l[behind], x.size) {
					both := slices.Clone(l)
					both[behind].b = other.b
					if other.cut {
						both = both[:behind+1]
					}
					b, at := spoilt(both, j, s)
					refused(t, fmt.Sprintf("pieces %d and %d", j, behind), b, s.e, at)
				}
			}
		}
	}
	for k, c := range faults(t) {
		l := pieces(c.x)
		for j, p := range l {
			for _, s := range spoils(p, c.x.size) {
				b, at := spoilt(l, j, s)
				refused(t, fmt.Sprintf("fault %d and piece %d", k, j), b, s.e, at)
			}
		}
	}
}

// Promise 16.2: each image of a small keep, cut off at each of its bytes: ErrCut, where the piece that is cut begins.
func TestLoadCutAnywhere(t *testing.T) {
	for _, k := range append(small(t, 14), thin(t, 32, 9, most, 0, 1, 2, most/3, most-1), thin(t, 5, 0, most-1, 77, most-2)) {
		l := pieces(partsOf(k))
		b := joined(l)
		begins := 0
		for _, p := range l {
			for c := range p.b {
				refused(t, "cut off", b[:begins+c], api.ErrCut, begins) // what lacks lies behind its length
				refused(t, "cut off", slices.Clone(b[:begins+c]), api.ErrCut, begins)
			}
			begins += len(p.b)
		}
		loaded(t, "whole", b)
	}
}

// Promises 16.2 and 16.3: each image of a small keep with each of its bits turned: a keep whose image is those very
// bytes, or an error and a place.
func TestLoadTurnedBits(t *testing.T) {
	for _, k := range small(t, 9) {
		b := image.Save(k)
		for bit := range 8 * len(b) {
			b[bit/8] ^= 1 << (bit % 8)
			check(t, fmt.Sprintf("bit %d", bit), b)
			b[bit/8] ^= 1 << (bit % 8)
		}
	}
}

// Promises 16.2 and 16.3: each byte that is not a hash's turned into each other one; of many pieces those at both ends.
func TestLoadTurnedBytes(t *testing.T) {
	for _, k := range []*keep.Keep{of(t, 32, 2, 0), of(t, 1, 0, 1), pinned(t, 32, 2, 5, false, 1, 4), pinned(t, 2, 16, 11, true, 0, 3, 3), thin(t, 32, 9, most, 5, most-1), thin(t, 32, 9, 1<<40+1, 0)} {
		l := pieces(partsOf(k))
		b := joined(l)
		at := 0
		for j, p := range l {
			for c := 0; c < 256*len(p.b) && p.is != aHash && (j < 12 || j > len(l)-9); c++ {
				was := b[at+c/256]
				b[at+c/256] = byte(c)
				check(t, "a byte turned", b)
				b[at+c/256] = was
			}
			at += len(p.b)
		}
	}
}

// Promises 16.2 and 16.3: all short lists of some bytes behind a beginning, and ahead of some hashes.
func TestLoadShortBytes(t *testing.T) {
	some := []byte{0, 1, 2, 3, 7, 16, 32, 33, 73, 127, 128, 129, 255}
	last := [][]byte{nil}
	for range 4 {
		var next [][]byte
		for _, b := range last {
			check(t, "short", b)
			for _, begin := range [][]byte{{73}, {73, 1, 0}, {73, 2, 3, 1, 1}, {73, 32, 16, 2, 1, 2}} {
				for count := range 3 {
					check(t, "short, behind a beginning", slices.Concat(begin, b, times(0, 32*count)))
				}
				check(t, "short, behind a beginning", slices.Concat(begin, times(0, 32), b))
			}
			for _, c := range some {
				next = append(next, append(slices.Clone(b), c))
			}
		}
		last = next
	}
}

// drawn is an image in which several things may be wrong: a pin too many, a number that is too great, bytes that are
// changed, taken out or put in.
func drawn(t *testing.T, d *dice) []byte {
	t.Helper()
	x := partsOf(grown(t, int(d.roll(200)), int(d.roll(30))))
	if d.roll(4) == 0 {
		x.pins[d.roll(x.size+1)] = 1
	}
	l := pieces(x)
	if d.roll(4) == 0 {
		some := [][]byte{groups(d.roll(40)), groups(most), groups(most + 1), groups(1 << 63), groups(far), times(255, 9, 2), times(128, 11)}
		l[d.roll(uint64(len(l)))].b = some[d.roll(uint64(len(some)))]
	}
	b := joined(l)
	for range d.roll(3) {
		at := int(d.roll(uint64(len(b))))
		if d.roll(2) == 0 {
			at = min(at, 7)
		}
		switch c := byte(d.roll(256)); d.roll(3) {
		case 0:
			b = slices.Insert(b, at, c)
		case 1:
			b = slices.Delete(b, at, at+1)
		case 2:
			b[at] = c
		}
	}
	return b
}

// Promises 16.2 and 16.3, rule R1: images in which what is wrong is drawn, up to several things at once: no call panics,
// and each answers what the words say.
func TestLoadDrawn(t *testing.T) {
	met := map[api.Errno]int{}
	for seed := range dice(20000) {
		d := seed
		_, e, _ := check(t, fmt.Sprintf("drawn %d", seed), drawn(t, &d))
		met[e]++
	}
	for _, e := range []api.Errno{api.OK, api.ErrArg, api.ErrRange, api.ErrCut, api.ErrForm, api.ErrTail, api.ErrKind, api.ErrSize, api.ErrPlace, api.ErrIndex, api.ErrPruned, api.ErrNode, api.ErrPin} {
		if met[e] < 5 {
			t.Errorf("%v was drawn %d times", e, met[e])
		}
	}
}
