package mmr_test

import (
	"slices"
	"testing"

	"massif/api"
	"massif/mmr"
	"massif/store"
)

// Promise 6.7: Store is the store itself, and the same each time.
func TestStoreItself(t *testing.T) {
	x := grown(t, 32, 2, some(0, 5))
	s := x.Store()
	if s == nil || s != x.Store() {
		t.Fatal("Store is another one each time")
	}
	x.Append(h(5))
	if s.Len() != 10 {
		t.Errorf("behind Append the store has %d nodes", s.Len())
	}
	if e := s.Drop(0); e != api.OK {
		t.Fatal(e)
	}
	if got, e := x.Node(0); got != (api.Hash{}) || e != api.ErrPruned {
		t.Errorf("Node of what was dropped is %x, %v", got, e)
	}
	if e := s.Back(0, h(80)); e != api.OK {
		t.Fatal(e)
	}
	if got, e := x.Node(0); got != h(80) || e != api.OK {
		t.Errorf("Node of what lives again is %x, %v", got, e)
	}
	s.Push(h(81))
	if got, e := x.Node(10); got != h(81) || e != api.OK || x.Size() != 6 {
		t.Errorf("Node of what was pushed is %x, %v, Size %d", got, e, x.Size())
	}
	s.Cut(9)
	if _, e := x.Node(9); e != api.ErrPlace || x.Size() != 6 {
		t.Errorf("Node of what was cut off is %v, Size %d", e, x.Size())
	}
}

// Promises 6.4 and 6.7: all that the tree leans on are the peaks: nothing changes where the others live no more.
func TestPeaksAlone(t *testing.T) {
	m := plain{2, some(0, 130)}
	x := made(t, 2, 3)
	for n := range len(m.leaves) {
		x.Append(m.leaves[n])
		x.Store().Sweep(peakPlaces(n + 1))
		at := m.first(n + 1)
		if x.Size() != uint64(n+1) || !slices.Equal(x.Peaks(), at.peaks()) || x.Root() != at.root() {
			t.Fatalf("size %d, peaks alone: Size, Peaks or Root are others", n+1)
		}
	}
}

// peakPlaces are the places of the peaks of n leaves: each tree's last node, one tree behind the other.
func peakPlaces(n int) []uint64 {
	var l []uint64
	end := uint64(0)
	for b := 30; b >= 0; b-- {
		if n>>b&1 == 1 {
			end += 2<<b - 1
			l = append(l, end-1)
		}
	}
	return l
}

// Promises 6.6 and 6.9: Old asks its own peaks alone, and tells what Node says of the first that is refused.
func TestOldOfPruned(t *testing.T) {
	m := plain{32, some(0, 45)}
	for seed := range dice(30) {
		d := seed
		x := grown(t, 32, int(seed)%4, m.leaves)
		s := x.Store()
		for p := range s.Len() {
			if d.next(4) == 0 {
				s.Drop(p)
			}
		}
		if seed%2 == 1 {
			s.Cut(d.next(s.Len()))
		}
		for n := range len(m.leaves) + 1 {
			checkOld(t, x, m, n)
		}
		for _, n := range []uint64{46, most, far} {
			if got, e := x.Old(n); got != (api.Hash{}) || e != api.ErrSize {
				t.Fatalf("Old(%d) is %x, %v", n, got, e)
			}
		}
	}
}

func checkOld(t *testing.T, x *mmr.Tree, m plain, n int) {
	t.Helper()
	want, wantE := m.first(n).root(), api.OK
	for _, p := range peakPlaces(n) {
		if _, e := x.Node(p); e != api.OK {
			want, wantE = api.Hash{}, e
			break
		}
	}
	if got, e := x.Old(uint64(n)); got != want || e != wantE {
		t.Fatalf("Old(%d) is %x, %v, want %x, %v", n, got, e, want, wantE)
	}
}

// Promise 6.6: the first that is refused, from the left, says which error it is.
func TestOldFirstFromTheLeft(t *testing.T) {
	x := grown(t, 32, 0, some(0, 7)) // peaks at 6, 9 and 10
	s := x.Store()
	s.Cut(10)
	if _, e := x.Old(7); e != api.ErrPlace {
		t.Errorf("Old behind Cut(10) is %v", e)
	}
	s.Drop(9)
	if _, e := x.Old(7); e != api.ErrPruned {
		t.Errorf("Old behind Drop(9), ahead of what was cut off, is %v", e)
	}
	s.Cut(9)
	if _, e := x.Old(7); e != api.ErrPlace {
		t.Errorf("Old behind Cut(9) is %v", e)
	}
	s.Drop(6)
	if _, e := x.Old(7); e != api.ErrPruned {
		t.Errorf("Old behind Drop(6), ahead of what was cut off, is %v", e)
	}
	if got, e := x.Old(0); got != (plain{w: 32}).root() || e != api.OK {
		t.Errorf("Old(0) is %x, %v", got, e)
	}
}

// Promise 6.7: what is done to the store is done to the tree: a peak that lives again with another hash is the peak.
func TestPeakWithAnotherHash(t *testing.T) {
	for n := 1; n < 40; n++ {
		for i, p := range peakPlaces(n) {
			x := grown(t, 32, 1, some(0, n))
			peaks := x.Peaks()
			x.Store().Drop(p)
			x.Store().Back(p, h(500))
			peaks[i] = h(500)
			root, _ := mmr.Bag(32, uint64(n), peaks)
			if !slices.Equal(x.Peaks(), peaks) || x.Root() != root {
				t.Fatalf("size %d: Peaks or Root are not those of the store", n)
			}
			checkNext(t, x, n, peaks)
		}
	}
}

// checkNext appends a leaf and holds the peaks against what it makes of those that were there.
func checkNext(t *testing.T, x *mmr.Tree, n int, peaks []api.Hash) {
	t.Helper()
	x.Append(h(n))
	last := h(n)
	for b := n; b%2 == 1; b /= 2 {
		l := len(peaks) - 1
		last = plain{32, []api.Hash{peaks[l], last}}.nodes()[2]
		peaks = peaks[:l]
	}
	if want := append(slices.Clone(peaks), last); !slices.Equal(x.Peaks(), want) {
		t.Fatalf("size %d: Peaks behind Append are %x, want %x", n+1, x.Peaks(), want)
	}
}

// Promise 6.7: as long as the store is another one nothing is promised; behind that all is as it was.
func TestStoreMended(t *testing.T) {
	m := plain{32, some(0, 21)}
	nodes := m.nodes()
	x := grown(t, 32, 2, m.leaves)
	s := x.Store()
	for _, p := range peakPlaces(21) {
		s.Drop(p)
		s.Back(p, nodes[p])
		hold(t, x, m, "behind a peak that lives again")
	}
	for n := range uint64(len(nodes)) {
		s.Cut(n)
		for _, h := range nodes[n:] {
			s.Push(h)
		}
		hold(t, x, m, "behind nodes that were pushed again")
	}
	s.Push(h(1))
	s.Push(h(2))
	s.Cut(uint64(len(nodes)))
	hold(t, x, m, "behind nodes that were cut off again")
	x.Append(h(21))
	m.leaves = append(m.leaves, h(21))
	hold(t, x, m, "behind Append to what was mended")
	holdOld(t, x, m)
}

// spoils are what somebody may do to a store against 6.7.
func spoils() []func(*store.Store, *dice) {
	return []func(*store.Store, *dice){
		func(s *store.Store, _ *dice) { s.Sweep(nil) },
		func(s *store.Store, _ *dice) { s.Cut(0) },
		func(s *store.Store, d *dice) { s.Cut(d.next(s.Len() + 1)) },
		func(s *store.Store, d *dice) { s.Drop(d.next(s.Len() + 1)) },
		func(s *store.Store, d *dice) { s.Back(d.next(s.Len()+1), h(3)) },
		func(s *store.Store, d *dice) { s.Pin(d.next(s.Len() + 1)) },
		func(s *store.Store, d *dice) {
			for range d.next(9) {
				s.Push(h(4))
			}
		},
	}
}

// Promise 6.7 and rule R1: whatever was done to the store, all calls end and none panics.
func TestStoreSpoiled(t *testing.T) {
	for seed := range dice(300) {
		d := seed
		x := grown(t, 1, int(seed)%5, some(0, int(d.next(40))))
		for range 40 {
			l := spoils()
			l[d.next(uint64(len(l)))](x.Store(), &d)
			x.Append(h(9))
			x.Add([]byte{1})
			x.Install(some(0, int(d.next(9))), d.next(5))
			x.Peaks()
			x.Root()
			for n := range x.Size() + 2 {
				x.Old(n)
			}
		}
	}
}

// Rule R1: a tree of so many leaves that no store could have their nodes.
func TestSizeWithoutNodes(t *testing.T) {
	for _, n := range []uint64{1, most / 2, most - 2, most - 1, most} {
		x := full(t, n)
		x.Peaks()
		x.Root()
		x.Append(h(1))
		x.Add(nil)
		x.Install(nil, 0)
		x.Install(nil, far)
		x.Peaks()
		x.Root()
	}
}
