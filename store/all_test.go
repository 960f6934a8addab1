package store_test

import (
	"iter"
	"slices"
	"testing"

	"massif/api"
	"massif/store"
)

// Promise 5.8: who leaves early is told no more, and who comes again begins again.
func TestAllLeftEarly(t *testing.T) {
	for _, log := range logs {
		s, m := fresh(t, log, 150)
		for p := uint64(0); p < 150; p += 4 {
			s.Drop(p)
			m.drop(p)
		}
		all := s.All()
		want := m.all()
		for n := range len(want) + 2 {
			if got := first(all, n); !slices.Equal(got, want[:min(n, len(want))]) {
				t.Fatalf("log %d: the first %d of All are %v", log, n, got)
			}
		}
		hold(t, s, m, "behind All left early")
	}
}

// first are the first n pairs, at most; none is asked for beyond them.
func first(all iter.Seq2[uint64, api.Hash], n int) []pair {
	if n == 0 {
		return nil
	}
	var l []pair
	for p, x := range all {
		l = append(l, pair{p, x})
		if len(l) == n {
			break
		}
	}
	return l
}

// Promise 5.8: told as long as it is asked: behind a no there is no further word.
func TestAllStopsAtNo(t *testing.T) {
	for _, log := range logs {
		s, _ := fresh(t, log, 200)
		for stop := range 200 {
			told := 0
			s.All()(func(uint64, api.Hash) bool {
				told++
				return told <= stop
			})
			if told != stop+1 {
				t.Fatalf("log %d: told %d times, the no was the %d-th", log, told, stop+1)
			}
		}
	}
}

// Promise 5.8: one iterator, asked again behind changes, tells what lives then.
func TestAllAgain(t *testing.T) {
	for _, log := range logs {
		s, m := fresh(t, log, 0)
		all := s.All()
		change := []func(){
			func() {},
			func() { s.Push(h(0)); m.push(h(0)) },
			func() {
				for i := range 100 {
					s.Push(h(i))
					m.push(h(i))
				}
			},
			func() { s.Drop(64); m.drop(64) },
			func() { s.Back(64, h(800)); m.back(64, h(800)) },
			func() { s.Sweep([]uint64{3, 90}); m.sweep([]uint64{3, 90}) },
			func() { s.Cut(90); m.cut(90) },
			func() { s.Cut(0); m.cut(0) },
			func() { s.Push(h(5)); m.push(h(5)) },
		}
		for i, f := range change {
			f()
			for range 2 {
				var got []pair
				for p, x := range all {
					got = append(got, pair{p, x})
				}
				if !slices.Equal(got, m.all()) {
					t.Fatalf("log %d: All behind the change %d tells %v, want %v", log, i, got, m.all())
				}
			}
		}
	}
}

// Promise 5.8: two who go through it in turns are told the same, for nothing of it is kept.
func TestAllTwiceAtOnce(t *testing.T) {
	s, m := fresh(t, 2, 30)
	s.Drop(9)
	m.drop(9)
	for range s.All() {
		if got := told(s); !slices.Equal(got, m.all()) {
			t.Fatalf("All within All tells %v", got)
		}
	}
}

// Rule R1: who changes the store while going through it is promised nothing but an end.
func TestAllWhileItIsChanged(t *testing.T) {
	for _, log := range logs {
		for _, act := range []func(*store.Store, uint64){
			func(s *store.Store, p uint64) { s.Drop(p) },
			func(s *store.Store, p uint64) { s.Drop(p + 1) },
			func(s *store.Store, _ uint64) { s.Sweep(nil) },
			func(s *store.Store, _ uint64) { s.Cut(s.Len() / 2) },
			func(s *store.Store, _ uint64) { s.Cut(0) },
			func(s *store.Store, p uint64) { s.Drop(p); s.Back(p, h(1)) },
		} {
			s, _ := fresh(t, log, 200)
			for p := range s.All() {
				act(s, p)
			}
		}
	}
}
