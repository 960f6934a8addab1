package sync_test

import (
	"slices"
	"testing"

	"massif/api"
)

// Rule R3: lists and bytes are read up to their length, not changed, and not kept: written over behind the call, they
// change nothing.
func TestListsAreNotKept(t *testing.T) {
	x := treeOf(t, 32, leaves(0, 13))
	for m := range uint64(6) {
		for n := m + 1; n <= 13; n++ {
			for first := range int(n - m) {
				p := at(t, 32, 1, leaves(0, int(m)))
				b := room(bytesOf(t, x, m, n), 1, 2, 3)
				b2 := slices.Clone(b[:cap(b)])
				p.Aim(n, rootAt(t, x, n), b, api.OK)
				if !slices.Equal(b[:cap(b)], b2) {
					t.Fatalf("%d to %d: Aim has changed bytes", m, n)
				}
				overwrite(b, 9)
				p.same()
				feedRoom(p, m, first, n-m-uint64(first))
				feedRoom(p, m+uint64(first), int(n-m)-first, 0)
			}
		}
	}
}

// feedRoom feeds k leaves with others behind their length, and writes over all of them behind the call.
func feedRoom(p *pair, from uint64, k int, left uint64) {
	p.t.Helper()
	l := room(leaves(from, k), leaves(600, 3)...)
	was := slices.Clone(l[:cap(l)])
	p.Feed(l, left, api.OK)
	if !slices.Equal(l[:cap(l)], was) {
		p.t.Fatalf("Feed of %d leaves has changed them, or what lies behind", k)
	}
	overwrite(l, leaf(601))
	p.same()
}

// Rule R3: what lies behind the length does not count as fed, or as bytes.
func TestNothingBehindIsRead(t *testing.T) {
	x := treeOf(t, 32, leaves(0, 9))
	for m := range uint64(8) {
		p := at(t, 32, 1, leaves(0, int(m)))
		b := bytesOf(t, x, m, 9)
		for end := range b {
			p.Aim(9, x.Root(), b[:end], api.ErrCut)
		}
		p.Aim(9, x.Root(), b, api.OK)
		l := leaves(m, int(9-m))
		p.Feed(l[:0], 9-m, api.OK)
		for i := range l {
			p.Feed(l[i:i+1], uint64(len(l)-i-1), api.OK)
		}
	}
}

// Rule R3: the leaves of a call that is refused are not kept either, nor changed.
func TestRefusedListsAreNotKept(t *testing.T) {
	x := treeOf(t, 32, leaves(0, 9))
	p := toward(t, 32, 1, x, 3, 9)
	for _, k := range []int{7, 8, 100} {
		l := room(leaves(3, k), leaves(600, 3)...)
		was := slices.Clone(l[:cap(l)])
		p.Feed(l, 0, api.ErrLong)
		if !slices.Equal(l[:cap(l)], was) {
			t.Fatalf("a refused Feed of %d leaves has changed them", k)
		}
		overwrite(l, leaf(601))
	}
	p.Feed(leaves(3, 6), 0, api.OK)
}

// Rule R3: a tree's bytes that were handed in wrong, and the leaves of a root that is another one, stay as they were.
func TestWrongListsAreNotChanged(t *testing.T) {
	x := treeOf(t, 32, leaves(0, 9))
	p := at(t, 32, 1, leaves(0, 4))
	b := room(bytesOf(t, x, 4, 9), 5, 6)
	b[7] ^= 8
	was := slices.Clone(b[:cap(b)])
	p.Aim(9, x.Root(), b, api.ErrRoot)
	if !slices.Equal(b[:cap(b)], was) {
		t.Error("a refused Aim has changed bytes")
	}
	p.Aim(9, x.Root(), bytesOf(t, x, 4, 9), api.OK)
	l := room(leaves(5, 5), leaf(1))
	lists := slices.Clone(l[:cap(l)])
	p.Feed(l, 0, api.ErrRoot)
	if !slices.Equal(l[:cap(l)], lists) {
		t.Error("a Feed with another root has changed leaves")
	}
}

// step is one thing of a row of things that is done to a pair.
type step func(p *pair)

// steps are a row of things with two trees that begin alike; it is one row for each seed.
func steps(t *testing.T, w int, seed int) []step {
	d := dice(seed)
	var l []step
	for range 40 {
		l = append(l, drawn(t, w, &d))
	}
	return l
}

// drawn is a thing that may be right or wrong where it is done: what the words say of it is what counts.
func drawn(t *testing.T, w int, d *dice) step {
	var own []api.Hash
	shared := int(d.roll(30))
	if d.roll(3) > 0 {
		own = leaves(0, 60)
	} else {
		own = slices.Concat(leaves(0, shared), leaves(400, 60-shared))
	}
	what, more, wrong, bit := d.roll(12), d.roll(7), d.roll(6), int(d.roll(256))
	return func(p *pair) {
		p.t.Helper()
		m := p.words.size()
		switch {
		case what < 4:
			x := treeOf(t, w, own)
			n := min(60, m+more)
			r, b := rootAt(t, x, n), bytesOf(t, x, m, n)
			if wrong == 0 {
				b[bit%len(b)] ^= 1
			}
			p.anyAim(n, r, b)
		case what < 11:
			from := m + uint64(len(p.words.fed))
			l := slices.Clone(own[from:min(60, from+more)])
			if wrong == 0 && len(l) > 0 {
				l = turned(l, len(l)-1, bit)
			}
			p.anyFeed(l)
		default:
			p.anyDrop()
		}
	}
}

func (p *pair) anyFeed(l []api.Hash) {
	p.t.Helper()
	left, e := p.words.Feed(l)
	gotLeft, got := p.r.Feed(l)
	p.trace = append(p.trace, "Feed")
	if got != e || gotLeft != left {
		p.fail("its answer", got, e)
	}
	p.met = append(p.met, e)
	p.same()
}

func (p *pair) anyDrop() {
	p.t.Helper()
	e := p.words.Drop()
	got := p.r.Drop()
	p.trace = append(p.trace, "Drop")
	if got != e {
		p.fail("its answer", got, e)
	}
	p.same()
}

// Promises 17.2 to 17.6: rows of things that are drawn, right ones and wrong ones, with two trees that begin alike, at wide
// and at narrow widths, are answered as the words say.
func TestDrawn(t *testing.T) {
	met, reached := map[api.Errno]int{}, 0
	for seed := range 120 {
		w := []int{32, 1, 2, 32, 5}[seed%5]
		p := newPair(t, w, seed%17)
		for _, do := range steps(t, w, seed) {
			do(p)
		}
		if p.words.size() > 0 {
			reached++
		}
		for _, e := range p.met {
			met[e]++
		}
	}
	for _, e := range []api.Errno{api.OK, api.ErrStage, api.ErrLong, api.ErrRoot} {
		if met[e] < 100 {
			t.Errorf("of all that was drawn just %d times %v came of it", met[e], e)
		}
	}
	if reached < 60 {
		t.Errorf("of 120 replicas just %d reached something", reached)
	}
}

// Rule R4: replicas in turns answer as each of them alone does.
func TestInTurns(t *testing.T) {
	for seed := range 30 {
		w := []int{32, 1}[seed%2]
		var pairs []*pair
		var rows [][]step
		for j := range 3 {
			pairs = append(pairs, newPair(t, w, (seed+j)%17))
			rows = append(rows, steps(t, w, seed+1000*j))
		}
		for i := range rows[0] {
			for j, p := range pairs {
				rows[j][i](p)
			}
			for _, p := range pairs {
				p.same()
			}
		}
	}
}

// Rule R4: one tree's proofs and leaves lead two replicas at unlike points of their ways, and neither sees the other.
func TestTwoOfOneTree(t *testing.T) {
	x := treeOf(t, 32, leaves(0, 12))
	p, q := toward(t, 32, 1, x, 0, 12), toward(t, 32, 1, x, 0, 7)
	p.Feed(leaves(0, 5), 7, api.OK)
	q.Feed(leaves(0, 6), 1, api.OK)
	p.Drop(api.OK)
	q.same()
	q.Feed(leaves(6, 1), 0, api.OK)
	p.same()
	p.Feed(leaves(5, 7), 0, api.ErrStage)
	q.Aim(12, x.Root(), bytesOf(t, x, 7, 12), api.OK)
	p.Drop(api.ErrStage)
	p.Aim(12, x.Root(), bytesOf(t, x, 7, 12), api.ErrSize)
	q.Feed(leaves(7, 5), 0, api.OK)
	p.reach(x, 12)
}
