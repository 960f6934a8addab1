package store_test

import (
	"testing"

	"massif/api"
	"massif/store"
)

// place draws one that is mostly that of a node, often at the end of them, at times far out.
func (d *dice) place(m *plain) uint64 {
	n := uint64(len(m.nodes))
	switch d.next(12) {
	case 0:
		return n + d.next(3)
	case 1:
		return n - 1 // with no nodes: 2^64 - 1
	case 2:
		return []uint64{1<<63 - 1, 1 << 63, 1<<63 + n/2, far - 1, far}[d.next(5)]
	}
	return d.next(n + 1)
}

// act does one drawn act on both, and holds the answers against each other.
func act(t *testing.T, d *dice, s *store.Store, m *plain) {
	t.Helper()
	p, x := d.place(m), h(int(d.next(1<<20)))
	switch d.next(16) {
	case 0, 1, 2, 3:
		was := s.Len()
		same(t, m, "Push", s.Push(x), m.push(x))
		same(t, m, "Len ahead of it", was, s.Len()-1)
	case 4:
		same(t, m, "Pin", s.Pin(p), m.pin(p))
	case 5, 6:
		same(t, m, "Unpin", s.Unpin(p), m.unpin(p))
	case 7, 8, 9:
		same(t, m, "Drop", s.Drop(p), m.drop(p))
	case 10, 11, 12:
		same(t, m, "Back", s.Back(p, x), m.back(p, x))
	case 13:
		sweep(t, d, s, m)
	case 14:
		n := p
		if n < uint64(len(m.nodes)) && d.next(4) > 0 {
			n = uint64(len(m.nodes)) - d.next(8)%(n+1)
		}
		same(t, m, "Cut", s.Cut(n), m.cut(n))
	case 15:
		for range d.next(40) {
			x := h(int(d.next(1 << 20)))
			same(t, m, "Push", s.Push(x), m.push(x))
		}
	}
}

// sweep keeps many nodes, mostly, so that runs grow.
func sweep(t *testing.T, d *dice, s *store.Store, m *plain) {
	t.Helper()
	var keep []uint64
	few := 1 + d.next(8)
	for range few * uint64(len(m.nodes)) / 4 {
		keep = append(keep, d.place(m))
	}
	same(t, m, "Sweep", s.Sweep(keep), m.sweep(keep))
}

// Promises 5.1 to 5.9: long runs of drawn acts, on a store of each log.
func TestRuns(t *testing.T) {
	for log := range api.MaxLog + 1 {
		for run := range 4 {
			d := dice(100*log + run)
			s, m := fresh(t, log, 0)
			for range 400 {
				act(t, &d, s, m)
				hold(t, s, m, "in a run")
			}
		}
	}
}

// Rule R4: stores that are used in turns have nothing in common.
func TestTwoInTurns(t *testing.T) {
	for log := range api.MaxLog + 1 {
		d := dice(log)
		a, ma := fresh(t, log, 0)
		b, mb := fresh(t, (log+int(d.next(3)))%(api.MaxLog+1), 0)
		for range 300 {
			if d.next(2) == 0 {
				act(t, &d, a, ma)
			} else {
				act(t, &d, b, mb)
			}
			hold(t, a, ma, "the one of two")
			hold(t, b, mb, "the other of two")
		}
	}
}

// Rule R4: nothing hangs on the order of a map: the same acts, the same answers, each time.
func TestSameEachTime(t *testing.T) {
	for range 5 {
		d := dice(77)
		s, m := fresh(t, 0, 500)
		for range 200 {
			act(t, &d, s, m)
		}
		hold(t, s, m, "behind the same acts")
	}
}

// Rule R1: a store that New did not make has chunks of one node.
func TestNoughtStore(t *testing.T) {
	var s store.Store
	m := &plain{}
	hold(t, &s, m, "untouched")
	same(t, m, "Sweep", s.Sweep([]uint64{1}), 0)
	same(t, m, "Cut(0)", s.Cut(0), api.OK)
	same(t, m, "Pin", s.Pin(0), api.ErrPlace)
	d := dice(3)
	for range 300 {
		act(t, &d, &s, m)
		hold(t, &s, m, "a run")
	}
}

// Promises 5.2 to 5.8: many nodes, of which few are left: the time goes with what lives, and with what is asked.
func TestManyNodes(t *testing.T) {
	const n = 1 << 18
	for _, log := range []int{0, 5, 11, api.MaxLog} {
		s, m := fresh(t, log, n)
		for p := uint64(0); p < n; p++ {
			if p%1000 != 0 && s.Drop(p) != api.OK {
				t.Fatalf("log %d: Drop(%d)", log, p)
			}
		}
		same(t, m, "Alive", s.Alive(), (n+999)/1000)
		for p := uint64(n - 1); p < n; p-- {
			if p%1000 != 0 && s.Back(p, h(int(p)+1)) != api.OK {
				t.Fatalf("log %d: Back(%d)", log, p)
			}
		}
		same(t, m, "Alive", s.Alive(), n)
		same(t, m, "Sweep", s.Sweep([]uint64{0, n - 1}), n-2)
		for i := range 1000 {
			same(t, m, "Cut", s.Cut(uint64(n-1-i)), api.OK)
		}
		same(t, m, "Alive", s.Alive(), 1)
	}
}
