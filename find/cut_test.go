package find_test

import (
	"slices"
	"testing"

	"massif/api"
	"massif/find"
)

// Promise 22.2: at Size nothing is forgotten, at 0 all of it; above Size nothing is done, up to the greatest number.
func TestCutAtTheEnds(t *testing.T) {
	for n := range uint64(12) {
		p := newPair(t)
		for i := range n {
			p.add(h(i % 4))
		}
		p.cut(n)
		for _, m := range beyond(n + 1) {
			if m > n {
				p.cut(m)
			}
		}
		p.add(h(n % 4))
		p.cut(0)
		p.cut(0)
		p.cut(1)
		p.cut(far)
		p.add(h(1))
	}
}

// Promise 22.2: every list of some few leaves, cut at every number, and added to behind it.
func TestCutOfEachList(t *testing.T) {
	for size := range 6 {
		for _, numbers := range digits(size, 3) {
			leaves := hashes(numbers...)
			for n := range uint64(size + 2) {
				p := pairOf(t, leaves...)
				p.cut(n)
				p.checkTogether()
				for _, x := range leaves {
					p.add(x)
				}
				p.checkTogether()
			}
		}
	}
}

// Promise 22.2: a hash that was cut away stands nowhere; added again, it stands where it was added, and nowhere else.
func TestCutAwayAndAddedAgain(t *testing.T) {
	a, b, c := h(1), h(2), h(3)
	p := pairOf(t, a, b, c, b)
	p.cut(1)
	if l := p.At(b); len(l) != 0 {
		t.Errorf("At of what was cut away is %v", l)
	}
	if i := p.Add(c); i != 1 {
		t.Errorf("Add behind Cut(1) is %d", i)
	}
	if i := p.Add(b); i != 2 {
		t.Errorf("a second Add behind Cut(1) is %d", i)
	}
	if l := p.At(b); !slices.Equal(l, []uint64{2}) {
		t.Errorf("At of what was added again is %v", l)
	}
	if l := p.At(c); !slices.Equal(l, []uint64{1}) {
		t.Errorf("At of what was added elsewhere is %v", l)
	}
	p.list = list{a, c, b}
	p.check()
}

// Promise 22.2: what Unlike and Twice are behind a Cut that leaves one of two, or two of three, that takes a hash away
// whole, that changes which hashes stand twice.
func TestUnlikeAndTwiceBehindCut(t *testing.T) {
	for _, z := range []struct {
		leaves []uint64
		n      uint64
		unlike int
		twice  []uint64
	}{
		{[]uint64{1, 2, 1}, 2, 2, nil},
		{[]uint64{1, 2, 1, 1}, 3, 2, []uint64{1}},
		{[]uint64{1, 2, 1, 3, 3}, 3, 2, []uint64{1}},
		{[]uint64{1, 2, 2, 1, 3}, 3, 2, []uint64{2}},
		{[]uint64{1, 2, 2, 1, 3}, 1, 1, nil},
		{[]uint64{3, 1, 2, 2, 1, 3}, 5, 3, []uint64{1, 2}},
		{[]uint64{3, 1, 2, 2, 1, 3}, 4, 3, []uint64{2}},
		{[]uint64{3, 1, 2, 2, 1, 3}, 0, 0, nil},
	} {
		p := pairOf(t, hashes(z.leaves...)...)
		p.cut(z.n)
		if n := p.Unlike(); n != z.unlike {
			t.Errorf("Unlike behind Cut(%d) of %v is %d, want %d", z.n, z.leaves, n, z.unlike)
		}
		if l := p.Twice(); !slices.Equal(l, hashes(z.twice...)) {
			t.Errorf("Twice behind Cut(%d) of %v is %x, want those of %v", z.n, z.leaves, l, z.twice)
		}
	}
}

// Promise 22.2: leaves that are added behind a Cut in another order change which hash is the first of Twice.
func TestOtherFirstBehindCut(t *testing.T) {
	p := pairOf(t, hashes(1, 2, 1, 2)...)
	p.cut(0)
	for _, x := range hashes(2, 1, 1, 2) {
		p.add(x)
	}
	if l := p.Twice(); !slices.Equal(l, hashes(2, 1)) {
		t.Errorf("Twice is %x", l)
	}
	p.cut(1)
	for _, x := range hashes(3, 1, 3, 1, 2) {
		p.add(x)
	}
	if l := p.Twice(); !slices.Equal(l, hashes(2, 3, 1)) {
		t.Errorf("Twice is %x", l)
	}
}

// Promises 22.1, 22.2: added and cut in turns, by what was drawn: every answer behind every step. Few kinds of hashes stand
// many times, many kinds once.
func TestTurns(t *testing.T) {
	for seed := range uint64(40) {
		d := dice(seed)
		kinds := []uint64{1, 2, 5, 20, 1 << 40}[seed%5]
		p := newPair(t)
		for range 150 {
			switch n := p.Size(); d.next(8) {
			case 0:
				p.cut(d.next(n + 1))
			case 1:
				p.cut(n - min(n, d.next(3)))
			case 2:
				p.cut(n + d.next(3))
			default:
				p.add(h(d.next(kinds)))
			}
		}
	}
}

// Promise 22.2: likewise with so many leaves that what is kept becomes great and small again: cut down to few at once, by
// steps, and one by one.
func TestGreatCuts(t *testing.T) {
	for _, step := range []uint64{1, 7, 100, 999, 1000} {
		p := &pair{t: t, Find: find.New()}
		for range 3 {
			for len(p.list) < 1000 {
				x := h(uint64(len(p.list)) % 70)
				p.Add(x)
				p.list = append(p.list, x)
			}
			p.check()
			for p.Size() > 0 {
				n := p.Size() - min(p.Size(), step)
				if e := p.Cut(n); e != api.OK {
					t.Fatalf("Cut(%d) is %v", n, e)
				}
				p.list = p.list[:n]
				if step > 1 || n%50 == 3 {
					p.check(h(69), h(0))
				}
			}
		}
	}
}

// Promise 22.2: a hundred thousand leaves, cut and added one by one and many at once: a leaf is forgotten without a look at
// all others, or this test would not end in its time.
func TestLong(t *testing.T) {
	const n = 100_000
	f := find.New()
	for i := range uint64(n) {
		f.Add(h(i % 30_000))
	}
	for range 50_000 {
		f.Cut(n - 1)
		f.Add(h(7))
		f.Cut(n)
	}
	if l := f.At(h(7)); !slices.Equal(l, []uint64{7, 30_007, 60_007, 90_007, n - 1}) {
		t.Errorf("At is %v", l)
	}
	for m := uint64(n); m > 10_000; m-- {
		if e := f.Cut(m - 1); e != api.OK {
			t.Fatalf("Cut(%d) is %v", m-1, e)
		}
	}
	if f.Size() != 10_000 || f.Unlike() != 10_000 || len(f.Twice()) != 0 {
		t.Errorf("Size, Unlike, Twice are %d, %d, %d", f.Size(), f.Unlike(), len(f.Twice()))
	}
}
