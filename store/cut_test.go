package store_test

import (
	"testing"

	"massif/api"
)

// Promise 5.7: Cut at every place, in the middle of chunks and at their ends, and pushes behind it.
func TestCut(t *testing.T) {
	for _, log := range logs {
		for n := range uint64(141) {
			s, m := fresh(t, log, 140)
			for p := uint64(0); p < 140; p += 7 {
				s.Drop(p)
				m.drop(p)
			}
			same(t, m, "Cut", s.Cut(n), m.cut(n))
			hold(t, s, m, "behind Cut")
			same(t, m, "Cut of Len", s.Cut(n), api.OK)
			same(t, m, "Cut of one more", s.Cut(n+1), api.ErrPlace)
			hold(t, s, m, "behind Cut of Len")
			for i := range 3 {
				same(t, m, "Push behind Cut", s.Push(h(700+i)), m.push(h(700+i)))
			}
			hold(t, s, m, "behind pushes")
		}
	}
}

// Promises 5.2 and 5.7: what is pushed where a node stood that did not live, lives.
func TestPushWhereOneWasDropped(t *testing.T) {
	for _, log := range logs {
		s, m := fresh(t, log, 66)
		same(t, m, "Sweep", s.Sweep(nil), m.sweep(nil))
		same(t, m, "Cut", s.Cut(62), m.cut(62))
		for i := range 8 {
			same(t, m, "Push", s.Push(h(40+i)), m.push(h(40+i)))
			hold(t, s, m, "behind Push")
		}
		same(t, m, "Cut(0)", s.Cut(0), m.cut(0))
		hold(t, s, m, "behind Cut(0)")
		same(t, m, "Push", s.Push(h(1)), m.push(h(1)))
		hold(t, s, m, "behind Push")
	}
}

// Promise 5.7: a pin from n on holds Cut off, one ahead of n does not.
func TestCutAndPins(t *testing.T) {
	for _, log := range logs {
		for _, n := range []uint64{0, 1, 31, 64, 69, 70} {
			for _, p := range []uint64{0, 1, 30, 31, 32, 63, 64, 65, 68, 69} {
				s, m := fresh(t, log, 70)
				same(t, m, "Pin", s.Pin(p), m.pin(p))
				same(t, m, "Cut", s.Cut(n), m.cut(n))
				hold(t, s, m, "behind Cut")
				want := api.OK
				if p >= n {
					want = api.ErrPlace
					same(t, m, "Unpin", s.Unpin(p), m.unpin(p))
					same(t, m, "Cut without pins", s.Cut(n), m.cut(n))
				}
				hold(t, s, m, "behind Cut without pins")
				same(t, m, "Unpin behind Cut", s.Unpin(p), want)
			}
		}
	}
}

// Rule R2: no such place stands ahead of a pin.
func TestCutFirstError(t *testing.T) {
	for _, log := range logs {
		s, m := fresh(t, log, 5)
		for p := range uint64(5) {
			same(t, m, "Pin", s.Pin(p), m.pin(p))
		}
		for _, n := range []uint64{6, 64, 1 << 63, far} {
			same(t, m, "Cut", s.Cut(n), api.ErrPlace)
		}
		same(t, m, "Cut of Len", s.Cut(5), api.OK)
		hold(t, s, m, "behind Cut")
	}
}
