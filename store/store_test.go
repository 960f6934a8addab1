package store_test

import (
	"slices"
	"testing"

	"massif/api"
	"massif/store"
)

// logs are those at the edges of New, and those about a word of bits.
var logs = []int{0, 1, 2, 3, 5, 6, 7, 8, api.MaxLog - 1, api.MaxLog}

// Promises 5.1 to 5.7: the examples of the chapter.
func TestExamples(t *testing.T) {
	s, m := fresh(t, 1, 3)
	a, d := h(0), h(99)
	same(t, m, "Drop(1)", s.Drop(1), api.OK)
	if s.Len() != 3 || s.Alive() != 2 || s.Chunks() != 2 {
		t.Errorf("Len, Alive, Chunks are %d, %d, %d", s.Len(), s.Alive(), s.Chunks())
	}
	for p, want := range []struct {
		hash api.Hash
		e    api.Errno
	}{{a, api.OK}, {api.Hash{}, api.ErrPruned}, {h(2), api.OK}, {api.Hash{}, api.ErrPlace}} {
		if x, e := s.Get(uint64(p)); x != want.hash || e != want.e {
			t.Errorf("Get(%d) is %v, %v", p, x, e)
		}
	}
	same(t, m, "Pin(0)", s.Pin(0), api.OK)
	same(t, m, "Drop(0)", s.Drop(0), api.ErrPinned)
	same(t, m, "Pin(1)", s.Pin(1), api.ErrPruned)
	same(t, m, "Unpin(2)", s.Unpin(2), api.ErrPin)
	same(t, m, "Sweep([2])", s.Sweep([]uint64{2}), 0)
	same(t, m, "Unpin(0)", s.Unpin(0), api.OK)
	same(t, m, "Sweep([2 9 1])", s.Sweep([]uint64{2, 9, 1}), 1)
	same(t, m, "Alive", s.Alive(), 1)
	same(t, m, "Chunks", s.Chunks(), 1)
	same(t, m, "Back(0, d)", s.Back(0, d), api.OK)
	same(t, m, "Back(2, d)", s.Back(2, d), api.ErrLive)
	same(t, m, "Back(3, d)", s.Back(3, d), api.ErrPlace)
	same(t, m, "Cut(4)", s.Cut(4), api.ErrPlace)
	same(t, m, "Cut(2)", s.Cut(2), api.OK)
	same(t, m, "Len", s.Len(), 2)
	if got := told(s); !slices.Equal(got, []pair{{0, d}}) {
		t.Errorf("All tells %v", got)
	}
}

// Promise 5.1: which logs there are; beside the error the store is nil.
func TestNew(t *testing.T) {
	for log := range api.MaxLog + 1 {
		s, m := fresh(t, log, 0)
		hold(t, s, m, "new")
	}
	for _, log := range []int{-1, -2, -16, -1 << 63, api.MaxLog + 1, 32, 63, 64, 1 << 32, 1<<32 + 1, 1<<63 - 1} {
		if s, e := store.New(log); s != nil || e != api.ErrArg {
			t.Errorf("New(%d) is %v, %v", log, s, e)
		}
	}
}

// Promises 5.1, 5.2 and 5.9: places rise from 0 on, Push answers what Len was, and chunks begin at multiples of 2^log.
func TestPush(t *testing.T) {
	for _, log := range logs {
		s, m := fresh(t, log, 0)
		for i := range 300 {
			was := s.Len()
			same(t, m, "Push", s.Push(h(i)), m.push(h(i)))
			same(t, m, "Len ahead of Push", was, uint64(i))
			same(t, m, "Chunks", s.Chunks(), i>>log+1)
		}
		hold(t, s, m, "behind pushes")
	}
}

// Promise 5.2: at the greatest log a second chunk begins at 2^16, not ahead of it.
func TestPushIntoTheNextChunk(t *testing.T) {
	s, m := fresh(t, api.MaxLog, 1<<16)
	same(t, m, "Chunks", s.Chunks(), 1)
	same(t, m, "Push", s.Push(h(1)), 1<<16)
	same(t, m, "Chunks", s.Chunks(), 2)
	same(t, m, "Sweep", s.Sweep([]uint64{1<<16 - 1, 1 << 16}), 1<<16-1)
	same(t, m, "Chunks", s.Chunks(), 2)
	same(t, m, "Drop", s.Drop(1<<16-1), api.OK)
	same(t, m, "Chunks", s.Chunks(), 1)
	same(t, m, "Cut", s.Cut(1<<16), api.OK)
	same(t, m, "Chunks", s.Chunks(), 0)
	same(t, m, "Len", s.Len(), 1<<16)
}

// Promises 5.3 to 5.7: places that no node has, in every call that takes one; nothing is changed by them.
func TestNoSuchPlace(t *testing.T) {
	for _, log := range logs {
		for _, n := range []int{0, 1, 63, 64, 65, 100} {
			s, m := fresh(t, log, n)
			size := uint64(n)
			for _, p := range []uint64{size, size + 1, size + 64, 1<<63 - 1, 1 << 63, far - 1, far} {
				holdAt(t, s, m, p, "asked")
				same(t, m, "Pin past the end", s.Pin(p), api.ErrPlace)
				same(t, m, "Unpin past the end", s.Unpin(p), api.ErrPlace)
				same(t, m, "Drop past the end", s.Drop(p), api.ErrPlace)
				same(t, m, "Back past the end", s.Back(p, h(7)), api.ErrPlace)
				if p > size {
					same(t, m, "Cut past the end", s.Cut(p), api.ErrPlace)
				}
			}
			hold(t, s, m, "behind what was refused")
		}
	}
}

// Promise 5.4: pins are counted, and held off from nodes that live no more.
func TestPins(t *testing.T) {
	for _, log := range logs {
		s, m := fresh(t, log, 70)
		for _, p := range []uint64{0, 1, 63, 64, 69} {
			for _, want := range []api.Errno{api.OK, api.OK} {
				same(t, m, "Pin", s.Pin(p), want)
				m.pin(p)
				hold(t, s, m, "pinned")
			}
			for _, want := range []api.Errno{api.OK, api.OK, api.ErrPin, api.ErrPin} {
				same(t, m, "Unpin", s.Unpin(p), want)
				m.unpin(p)
				hold(t, s, m, "unpinned")
			}
		}
		same(t, m, "Drop", s.Drop(64), m.drop(64))
		same(t, m, "Pin of what lives no more", s.Pin(64), api.ErrPruned)
		same(t, m, "Unpin of what lives no more", s.Unpin(64), api.ErrPin)
		hold(t, s, m, "behind a refused pin")
		same(t, m, "Back", s.Back(64, h(500)), m.back(64, h(500)))
		same(t, m, "Pin of what is back", s.Pin(64), m.pin(64))
		hold(t, s, m, "pinned again")
	}
}

// Promise 5.5: Drop, of what lives, of what does not, and of what has a pin.
func TestDrop(t *testing.T) {
	for _, log := range logs {
		s, m := fresh(t, log, 130)
		for p := uint64(129); p < 130; p-- {
			if p%5 == 0 {
				same(t, m, "Pin", s.Pin(p), m.pin(p))
				same(t, m, "Drop of what is pinned", s.Drop(p), api.ErrPinned)
			} else {
				same(t, m, "Drop", s.Drop(p), m.drop(p))
				same(t, m, "Drop again", s.Drop(p), api.OK)
			}
			hold(t, s, m, "behind Drop")
		}
		for p := uint64(0); p < 130; p += 5 {
			same(t, m, "Unpin", s.Unpin(p), m.unpin(p))
			same(t, m, "Drop of what was pinned", s.Drop(p), m.drop(p))
			hold(t, s, m, "behind Drop")
		}
		same(t, m, "Chunks", s.Chunks(), 0)
		same(t, m, "Len", s.Len(), 130)
	}
}

// Promise 5.5: what Sweep lets stay: what is listed, once or twice, in whatever order, and what is pinned.
func TestSweep(t *testing.T) {
	every := make([]uint64, 140)
	for i := range every {
		every[i] = uint64(i)
	}
	lists := [][]uint64{
		nil, {}, {0}, {139}, {63, 64}, {64, 63}, {5, 5}, {5, 5, 5, 100, 5}, {140}, {141}, {far}, {1 << 63, far, 140, 3},
		{1 << 6, 1 << 7}, {139 + 1<<32}, {3 + 1<<63, 3}, {2, 4, 6, 8, 127, 128, 129}, every, every[1:], every[:70],
	}
	for _, log := range logs {
		for _, l := range lists {
			s, m := fresh(t, log, 140)
			for _, p := range []uint64{2, 64, 100} { // of these 100 is pinned, 2 and 64 live no more
				s.Drop(p)
				m.drop(p)
			}
			s.Back(100, h(900))
			m.back(100, h(900))
			s.Pin(100)
			m.pin(100)
			given := slices.Clone(l)
			same(t, m, "Sweep", s.Sweep(given), m.sweep(l))
			if !slices.Equal(given, l) {
				t.Fatalf("Sweep changed its list %v to %v", l, given)
			}
			hold(t, s, m, "behind Sweep")
			same(t, m, "Sweep again", s.Sweep(given), 0)
			clear(given)
			hold(t, s, m, "behind Sweep, its list turned")
			same(t, m, "Unpin", s.Unpin(100), m.unpin(100))
			same(t, m, "Sweep of all", s.Sweep(nil), m.sweep(nil))
			hold(t, s, m, "behind Sweep of all")
		}
	}
}

// Rule R3: what lies behind the length of a list is no part of it, and stays.
func TestSweepReadsNoFurther(t *testing.T) {
	for _, log := range logs {
		s, m := fresh(t, log, 10)
		l := []uint64{1, 2, 3, 4}
		same(t, m, "Sweep", s.Sweep(l[:2]), m.sweep(l[:2]))
		hold(t, s, m, "behind Sweep")
		if !slices.Equal(l, []uint64{1, 2, 3, 4}) {
			t.Fatalf("Sweep left %v", l)
		}
	}
}

// Promise 5.6: a node comes back with another hash, or with its own; one that lives does not.
func TestBack(t *testing.T) {
	for _, log := range logs {
		s, m := fresh(t, log, 130)
		for p := range uint64(130) {
			same(t, m, "Back of what lives", s.Back(p, h(1000)), api.ErrLive)
		}
		hold(t, s, m, "behind refused Back")
		same(t, m, "Sweep", s.Sweep([]uint64{66}), m.sweep([]uint64{66}))
		for _, p := range []uint64{129, 0, 64, 63, 65, 67, 1, 128, 127} {
			x := h(2000 + int(p))
			same(t, m, "Back", s.Back(p, x), m.back(p, x))
			hold(t, s, m, "behind Back")
			same(t, m, "Back again", s.Back(p, h(3000)), api.ErrLive)
			hold(t, s, m, "behind Back again")
		}
		same(t, m, "Drop", s.Drop(64), m.drop(64))
		same(t, m, "Back with no bytes set", s.Back(64, api.Hash{}), m.back(64, api.Hash{}))
		hold(t, s, m, "behind Back of a hash of noughts")
	}
}

// Promises 5.2, 5.5 and 5.6: a chunk counts while a node of it lives.
func TestChunksGoAndComeBack(t *testing.T) {
	for _, log := range []int{0, 1, 2, 5, 6, 7, 9} {
		long := 1 << log
		s, m := fresh(t, log, 3*long)
		for i := range long {
			same(t, m, "Chunks", s.Chunks(), 3)
			same(t, m, "Drop", s.Drop(uint64(long+i)), api.OK)
		}
		same(t, m, "Chunks without the middle one", s.Chunks(), 2)
		same(t, m, "Back", s.Back(uint64(2*long-1), h(5)), api.OK)
		same(t, m, "Chunks with one node of the middle one", s.Chunks(), 3)
		same(t, m, "Alive", s.Alive(), uint64(2*long+1))
		same(t, m, "Sweep", s.Sweep([]uint64{uint64(3 * long)}), uint64(2*long+1))
		same(t, m, "Chunks of nothing", s.Chunks(), 0)
		same(t, m, "Push", s.Push(h(8)), uint64(3*long))
		same(t, m, "Chunks behind Push", s.Chunks(), 1)
	}
}
