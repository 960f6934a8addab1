package store_test

import (
	"fmt"
	"testing"

	"massif/api"
	"massif/store"
)

// skip is what Skip does, of a plain list.
func (m *plain) skip(n int) {
	for range n {
		m.nodes = append(m.nodes, node{})
	}
}

// Skip leaves what pushing and dropping leaves: at each length, with nodes ahead and behind, that live again, are cut off.
func TestSkip(t *testing.T) {
	for log := range 5 {
		for first := range 5 {
			for n := range 40 {
				s, m := fresh(t, log, first)
				same(t, m, "Skip", s.Skip(uint64(n)), api.OK)
				m.skip(n)
				hold(t, s, m, "behind Skip")
				same(t, m, "Push", s.Push(h(70)), m.push(h(70)))
				p := uint64(first + n/2)
				same(t, m, "Back", s.Back(p, h(71)), m.back(p, h(71)))
				hold(t, s, m, "behind Push and Back")
				same(t, m, "Sweep", s.Sweep([]uint64{p}), m.sweep([]uint64{p}))
				same(t, m, "Cut", s.Cut(p+1), m.cut(p+1))
				hold(t, s, m, "behind Sweep and Cut")
			}
		}
	}
}

// Skip of more places than memory has; more than 2^63 in all are refused, and nothing is changed.
func TestSkipFar(t *testing.T) {
	for _, log := range []int{0, 3, 16} {
		for _, n := range []uint64{1 << 40, 1<<62 - 1, 1<<63 - 4} {
			s, _ := fresh(t, log, 3)
			if e := s.Skip(n); e != api.OK || s.Len() != n+3 || s.Alive() != 3 {
				t.Fatalf("Skip(%d) is %v, with %d places, of which %d live", n, e, s.Len(), s.Alive())
			}
			if got := s.Push(h(9)); got != n+3 {
				t.Fatalf("Push behind Skip(%d) is %d", n, got)
			}
			if e := s.Back(n, h(8)); e != api.OK {
				t.Fatalf("Back behind Skip(%d) is %v", n, e)
			}
			if got, want := fmt.Sprint(told(s)), fmt.Sprint([]pair{{0, h(0)}, {1, h(1)}, {2, h(2)}, {n, h(8)}, {n + 3, h(9)}}); got != want {
				t.Fatalf("All behind Skip(%d) tells %s, want %s", n, got, want)
			}
			checkSkipRefused(t, s)
		}
	}
}

func checkSkipRefused(t *testing.T, s *store.Store) {
	t.Helper()
	was := s.Len()
	room := 1<<63 - was
	for _, n := range []uint64{room + 1, room + 2, 1<<63 + 1, far - was, far - was + 1, far} {
		if e := s.Skip(n); e != api.ErrFull || s.Len() != was {
			t.Fatalf("Skip(%d) at %d is %v, and there are %d places", n, was, e, s.Len())
		}
	}
	if e := s.Skip(room); e != api.OK || s.Len() != 1<<63 {
		t.Fatalf("Skip(%d) at %d is %v", room, was, e)
	}
	s.Push(h(1))
	for _, n := range []uint64{0, 1, far} {
		if e := s.Skip(n); e != api.ErrFull || s.Len() != 1<<63+1 {
			t.Fatalf("Skip(%d) where there is no room is %v", n, e)
		}
	}
}
