package journal_test

import (
	"crypto/sha256"
	"fmt"
	"slices"
	"testing"

	"massif/api"
)

// piece is a record in its parts, or the head in the place of a number.
type piece struct {
	number, text, check []byte
}

func pieceOf(text []byte) piece {
	sum := sha256.Sum256(text)
	return piece{groups(uint64(len(text))), text, sum[:4]}
}

// pieces are a head and some records that are drawn; most of them are right where they stand.
func (d *dice) pieces() []piece {
	l := []piece{{number: head(1+d.roll(32), d.roll(17))}}
	n := uint64(0)
	for range d.roll(12) {
		text := appends(leaf(n))
		switch d.roll(9) {
		case 0, 1:
			n++
		case 2, 3:
			more := 1 + d.roll(6)
			text = batches(leaves(n, int(more))...)
			n += more
		case 4, 5:
			text = pins(n - min(n, 1+d.roll(4)))
		case 6:
			text = pins(d.roll(n + 1))
		case 7:
			text = unpins(n - min(n, 1+d.roll(4)))
		case 8:
			text = prunes()
		}
		l = append(l, pieceOf(text))
	}
	return l
}

// spoil changes a byte, puts one in or takes one out.
func (d *dice) spoil(b []byte) []byte {
	b = slices.Clone(b)
	at := int(d.roll(uint64(len(b)) + 1))
	c := byte(d.roll(256))
	if d.roll(2) == 0 {
		c = []byte{0, 1, 65, 66, 80, 82, 85, 128, 255}[d.roll(9)]
	}
	switch d.roll(3) {
	case 0:
		return slices.Insert(b, at, c)
	case 1:
		if at < len(b) {
			return slices.Delete(b, at, at+1)
		}
	case 2:
		if at < len(b) {
			b[at] = c
		}
	}
	return b
}

// drawn are a journal's bytes in which a piece may be spoilt: with another text, but the right number and check of that; or
// anywhere; and which may be cut, or go on.
func (d *dice) drawn() []byte {
	l := d.pieces()
	at := d.roll(uint64(len(l)))
	switch p := &l[at]; d.roll(6) {
	case 0:
		p.number = d.spoil(p.number)
	case 1:
		p.check = d.spoil(p.check)
	case 2, 3:
		if at > 0 {
			*p = pieceOf(d.spoil(p.text))
		}
	case 4:
		p.text = d.spoil(p.text)
	}
	var b []byte
	for _, p := range l {
		b = slices.Concat(b, p.number, p.text, p.check)
	}
	switch d.roll(8) {
	case 0:
		b = b[:d.roll(uint64(len(b))+1)]
	case 1:
		b = append(b, times(byte(d.roll(256)), int(d.roll(20)))...)
	case 2:
		b = d.spoil(d.spoil(b))
	}
	return b
}

// Promises 23.6 to 23.8 and rule R1: bytes in which what is wrong is drawn, up to several things at once: no call panics, and
// each answers what the words say.
func TestReplayDrawn(t *testing.T) {
	met := map[api.Errno]int{}
	torn, done := 0, 0
	for seed := range dice(30000) {
		d := seed
		b := d.drawn()
		_, at, e := check(t, fmt.Sprint("drawn ", seed), b)
		met[e]++
		if e == api.OK && at < len(b) {
			torn++
		}
		if e == api.OK && at > 80 {
			done++
		}
	}
	for _, e := range []api.Errno{api.OK, api.ErrArg, api.ErrCut, api.ErrForm, api.ErrKind, api.ErrIndex, api.ErrPruned, api.ErrPin, api.ErrCheck} {
		if met[e] < 20 {
			t.Errorf("%v was drawn %d times", e, met[e])
		}
	}
	if torn < 500 || done < 500 {
		t.Errorf("%d torn ones and %d of some length were drawn", torn, done)
	}
}

// Rule R1: bytes that are drawn one by one, with a head and without one.
func TestReplayAnyBytes(t *testing.T) {
	for seed := range dice(20000) {
		d := seed
		b := make([]byte, d.roll(40))
		for i := range b {
			b[i] = byte(d.roll(1 + d.roll(256)))
		}
		check(t, "any bytes", b)
		check(t, "any bytes behind a head", behind(head(2, 3), b...))
		if len(b) > 0 {
			check(t, "any bytes in a record", behind(head(2, 3), record(b...)...))
		}
	}
}
