package carry_test

import (
	"bytes"
	"fmt"
	"slices"
	"testing"

	"massif/api"
	"massif/carry"
)

// Rule R2: where several things are wrong with an event, the first is told, by a carry and by a flock.
func TestFirstErrorOfEvents(t *testing.T) {
	c, m := carried(t, 32, h(1), anyProof(2, 7, 50))
	f, g := flocked(t, 32, 7, m.peaks())
	atEnd, ofEnd := carried(t, 32, h(1), anyProof(2, most, 50))
	last, ofLast := flocked(t, 32, most, ofEnd.peaks())
	for _, x := range []struct {
		ev       api.Event
		at7, end api.Errno
	}{
		{api.Event{Size: 6}, api.ErrLate, api.ErrLate}, {api.Event{Size: 8, Peaks: hashes(0, 1)}, api.ErrLate, api.ErrLate}, {api.Event{Size: far, Peaks: hashes(0, 64)}, api.ErrLate, api.ErrLate}, {api.Event{Size: 7}, api.ErrPeaks, api.ErrLate}, {api.Event{Size: 7, Peaks: hashes(0, 3)}, api.ErrPeaks, api.ErrLate}, {api.Event{Size: most}, api.ErrLate, api.ErrFull}, {api.Event{Size: most, Peaks: hashes(0, 1)}, api.ErrLate, api.ErrFull}, {api.Event{Size: most + 1}, api.ErrLate, api.ErrLate},
	} {
		refuse(t, "first error", c, m, x.ev, x.at7)
		refuse(t, "first error", atEnd, ofEnd, x.ev, x.end)
		for _, hold := range []bool{false, true} {
			same(t, "first error", "On", f.On(x.ev, hold), x.at7)
			same(t, "first error", "On", last.On(x.ev, hold), x.end)
		}
	}
	holdFlock(t, "first error", f, g)
	holdFlock(t, "first error", last, ofLast)
}

// refuseAll asks a flock, which holds a leaf, for what is refused.
func refuseAll(t *testing.T, f *carry.Flock, held uint64) {
	t.Helper()
	n := f.Size()
	p, _ := f.Proof(held)
	same(t, "refused", "On", f.On(api.Event{Size: n + 1, Peaks: f.Peaks()}, true), api.ErrLate)
	same(t, "refused", "On", f.On(api.Event{Size: n, Peaks: hashes(0, 60)}, true), api.ErrPeaks)
	same(t, "refused", "Join", f.Join(h(1), nil), api.ErrCut)
	same(t, "refused", "Join", f.Join(h(1), raw(t, anyProof(0, n+1, 4))), api.ErrSize)
	same(t, "refused", "Join", f.Join(h(1), raw(t, p)), api.ErrLive)
	same(t, "refused", "Join", f.Join(h(1), raw(t, anyProof(held-1, n, 4))), api.ErrRoot)
	same(t, "refused", "Leave", f.Leave(n), api.ErrIndex)
	same(t, "refused", "Leave", f.Leave(held-1), api.ErrIndex)
	if p, e := f.Proof(held - 1); e != api.ErrIndex || !sameProof(p, api.Proof{}) {
		t.Fatalf("Proof(%d) is %v, %v", held-1, p, e)
	}
}

// Rule R2: calls that are refused change nothing, now or later.
func TestRefusedChangesNothing(t *testing.T) {
	f, m, leaves, whole := ofSome(t, 5, 3)
	c, x := carried(t, 32, leaves[3], made(t, whole, 3, 5))
	for n := range uint64(40) {
		refuseAll(t, f, 3)
		holdFlock(t, "refused", f, m)
		refuse(t, "refused", c, x, api.Event{Size: x.p.Size - 1}, api.ErrLate)
		refuse(t, "refused", c, x, api.Event{Size: x.p.Size, Peaks: hashes(0, 60)}, api.ErrPeaks)
		checkOn(t, "grown", c, x, m.event(h(n)))
		checkFlock(t, "grown", f, m, m.event(h(n)), n%4 == 0)
	}
}

// Rule R3: answers of a carry that are written over, their spare room too, change nothing, now or later; nor do two
// answers share anything.
func TestAnswersOfACarryAreNew(t *testing.T) {
	for n := uint64(1); n < 24; n++ {
		for i := range n {
			c, m := carried(t, 32, h(i), anyProof(i, n, 9))
			for k := range uint64(9) {
				peaks, p := c.Peaks(), c.Proof()
				overwrite(c.Peaks(), h(99))
				overwrite(c.Proof().Nodes, h(99))
				sameList(t, "beside another", "Peaks", peaks, m.peaks())
				sameList(t, "beside another", "Nodes", p.Nodes, m.p.Nodes)
				hold(t, "written over", c, m)
				was := slices.Clone(p.Nodes)
				checkOn(t, "written over", c, m, m.event(h(k+70)))
				sameList(t, "grown", "Nodes that were told ahead", p.Nodes, was)
				overwrite(peaks, h(98))
				overwrite(p.Nodes, h(98))
				hold(t, "written over later", c, m)
			}
		}
	}
}

// Rule R3: answers of a flock likewise.
func TestAnswersOfAFlockAreNew(t *testing.T) {
	f, m := flocked(t, 32, 0, nil)
	for n := range uint64(40) {
		checkFlock(t, "grown", f, m, m.event(h(n+70)), n%3 != 1)
		peaks, held := f.Peaks(), f.Held()
		p, _ := f.Proof(n - n%3)
		wasPeaks, wasHeld, wasNodes := slices.Clone(peaks), slices.Clone(held), slices.Clone(p.Nodes)
		overwrite(f.Peaks(), h(99))
		overwrite(f.Held(), far)
		for _, i := range held {
			q, _ := f.Proof(i)
			overwrite(q.Nodes, h(99))
		}
		holdFlock(t, "written over", f, m)
		checkFlock(t, "written over, grown", f, m, m.event(h(n+170)), n%2 == 1)
		sameList(t, "grown", "Peaks that were told ahead", peaks, wasPeaks)
		sameList(t, "grown", "Held that was told ahead", held, wasHeld)
		sameList(t, "grown", "Nodes that were told ahead", p.Nodes, wasNodes)
		overwrite(peaks, h(98))
		overwrite(held, far)
		overwrite(p.Nodes, h(98))
		holdFlock(t, "written over later", f, m)
	}
}

// Rule R3: a proof that is handed in is not changed, not read behind its length, and not kept; an event likewise.
func TestHandedToACarry(t *testing.T) {
	for n := uint64(1); n < 24; n++ {
		for i := range n {
			p := anyProof(i, n, 9)
			room := behind(p.Nodes, h(1), h(2), h(3))
			c, m := carried(t, 32, h(i), api.Proof{Size: n, Index: i, Nodes: room})
			sameList(t, "handed in", "Nodes", room[:len(room)+3], append(slices.Clone(p.Nodes), h(1), h(2), h(3)))
			overwrite(room, h(99))
			hold(t, "written over", c, m)
			for k := range uint64(9) {
				ev := m.event(h(k + 70))
				want := m.peaks()
				ev.Peaks = behind(ev.Peaks, h(1), h(2))
				checkOn(t, "with more behind", c, m, ev)
				sameList(t, "handed in", "Peaks", ev.Peaks[:len(want)+2], append(slices.Clone(want), h(1), h(2)))
				overwrite(ev.Peaks, h(99))
				hold(t, "written over", c, m)
			}
			for j := range room[:cap(room)] {
				if room[:cap(room)][j] != h(99) {
					t.Fatalf("leaf %d of %d: what was handed in has changed later", i, n)
				}
			}
		}
	}
}

// Rule R3: what is handed to a flock likewise: peaks, events, and bytes.
func TestHandedToAFlock(t *testing.T) {
	for n := uint64(1); n < 24; n++ {
		leaves := hashes(7, int(n))
		whole := tree(t, 32, leaves)
		peaks := behind(whole.Peaks(), h(1), h(2))
		f, m := flocked(t, 32, n, peaks)
		sameList(t, "handed in", "peaks", peaks[:len(peaks)+2], append(whole.Peaks(), h(1), h(2)))
		overwrite(peaks, h(99))
		holdFlock(t, "written over", f, m)
		for i := range n {
			b := raw(t, made(t, whole, i, n))
			room := behind(b, 1, 2, 3)
			checkJoin(t, "with more behind", f, m, leaves[i], room, api.OK)
			if !bytes.Equal(room[:len(b)+3], append(slices.Clone(b), 1, 2, 3)) {
				t.Fatalf("leaf %d of %d: the bytes have changed", i, n)
			}
			overwrite(room, 77)
		}
		holdFlock(t, "written over", f, m)
		for k := range uint64(9) {
			ev := m.event(h(k + 70))
			want := slices.Clone(ev.Peaks)
			ev.Peaks = behind(ev.Peaks, h(1), h(2))
			checkFlock(t, "with more behind", f, m, ev, k%2 == 0)
			sameList(t, "handed in", "Peaks", ev.Peaks[:len(want)+2], append(want, h(1), h(2)))
			overwrite(ev.Peaks, h(99))
			holdFlock(t, "written over", f, m)
		}
		for _, x := range peaks[:cap(peaks)] {
			same(t, "written over", "what was handed in", x, h(99))
		}
	}
}

// Rule R3: what lacks lies behind a list's length: it is not read.
func TestNothingIsReadBehind(t *testing.T) {
	c, m := carried(t, 32, h(1), anyProof(4, 11, 50))
	f, g := flocked(t, 32, 11, m.peaks())
	ev := m.event(h(2))
	for k := range ev.Peaks {
		short := api.Event{Size: 11, Leaf: h(2), Peaks: ev.Peaks[:k]}
		refuse(t, "peaks behind", c, m, short, api.ErrPeaks)
		same(t, "peaks behind", "On", f.On(short, true), api.ErrPeaks)
		if b, e := carry.EncodeEvent(short); len(b) > 0 || e != api.ErrCount {
			t.Fatalf("EncodeEvent is %x, %v", b, e)
		}
		if x, e := carry.NewFlock(32, 11, ev.Peaks[:k]); x != nil || e != api.ErrCount {
			t.Fatalf("NewFlock is %v, %v", x, e)
		}
	}
	p := anyProof(4, 11, 50)
	for k := range p.Nodes {
		if x, e := carry.New(32, h(1), api.Proof{Size: 11, Index: 4, Nodes: p.Nodes[:k]}); x != nil || e != api.ErrCount {
			t.Fatalf("New is %v, %v", x, e)
		}
	}
	holdFlock(t, "peaks behind", f, g)
}

// Rule R3: events and bytes that are handed in stay as they are, and what lies behind them is neither read nor written;
// what is answered is apart from them and from other answers.
func TestEventBytesAreNew(t *testing.T) {
	for n := range uint64(40) {
		ev := anyEvent(n, 3)
		want := bytesOf(ev)
		full := api.Event{Size: n, Leaf: ev.Leaf, Peaks: behind(ev.Peaks, h(1), h(2))}
		a, _ := carry.EncodeEvent(full)
		b, _ := carry.EncodeEvent(full)
		sameList(t, "handed in", "Peaks", full.Peaks[:len(ev.Peaks)+2], append(slices.Clone(ev.Peaks), h(1), h(2)))
		overwrite(a, 9)
		overwrite(full.Peaks, h(99))
		sameList(t, "beside another", "the bytes", b, want)

		room := append(slices.Clone(want), times(9, 70)...)
		x, _ := carry.DecodeEvent(room[:len(want)])
		y, _ := carry.DecodeEvent(room[:len(want)])
		sameList(t, "handed in", "the bytes", room, append(slices.Clone(want), times(9, 70)...))
		overwrite(x.Peaks, h(99))
		overwrite(room, 8)
		if !sameEvent(y, ev) {
			t.Fatalf("DecodeEvent(%x) has become %v", want, y)
		}
	}
}

// Rule R4: two carries in turns, of one proof or of two, have nothing to do with one another.
func TestTwoCarries(t *testing.T) {
	for n := uint64(1); n < 30; n++ {
		p := anyProof(n/2, n, 5)
		a, ofA := carried(t, 32, h(1), p)
		b, ofB := carried(t, 32, h(1), p)
		c, ofC := carried(t, 1, h(2), anyProof(0, n, 50))
		for k := range uint64(20) {
			checkOn(t, "in turns", a, ofA, ofA.event(h(k)))
			hold(t, "in turns", b, ofB)
			if k%3 == 0 {
				checkOn(t, "in turns", b, ofB, ofB.event(h(k+1000)))
				checkOn(t, "in turns", c, ofC, ofC.event(h(k+2000)))
			}
			hold(t, "in turns", a, ofA)
			hold(t, "in turns", c, ofC)
		}
	}
}

// Rule R4: two flocks in turns, of one forest or of two, have nothing to do with one another, and none with a carry.
func TestTwoFlocks(t *testing.T) {
	leaves := hashes(7, 200)
	others := hashes(300, 200)
	for seed := range dice(12) {
		d, e := seed, seed+100
		mine, theirs := leaves, leaves
		if seed%2 == 1 {
			theirs = others
		}
		ofMine, ofTheirs := tree(t, 32, mine), tree(t, 32, theirs)
		f, m := flocked(t, 32, 6, events(32, mine)[6].Peaks)
		g, o := flocked(t, 32, 6, events(32, theirs)[6].Peaks)
		c, x := carried(t, 32, mine[2], made(t, ofMine, 2, 6))
		checkJoin(t, "in turns", f, m, mine[2], raw(t, x.p), api.OK)
		for step := range 60 {
			when := fmt.Sprintf("two flocks, run %d, step %d", seed, step)
			move(t, when, f, m, ofMine, mine, &d)
			holdFlock(t, when, g, o)
			move(t, when, g, o, ofTheirs, theirs, &e)
			holdFlock(t, when, f, m)
			hold(t, when, c, x)
			if step%7 == 0 {
				checkOn(t, when, c, x, x.event(mine[x.p.Size]))
			}
		}
	}
}

// Rule R4: nothing hangs on the order of a map: the same leaves, come in any order, with others between that left, are
// carried alike.
func TestOrderOfLeaves(t *testing.T) {
	held := []uint64{0, 3, 4, 9, 17, 30, 31, 32}
	leaves := hashes(7, 120)
	told := events(32, leaves)
	whole := tree(t, 32, leaves)
	for turn := range held {
		f, m := flocked(t, 32, 40, told[40].Peaks)
		for k := range held {
			other := uint64(20 + k)
			for _, i := range []uint64{held[(k*3+turn)%len(held)], other} {
				checkJoin(t, "in another order", f, m, leaves[i], raw(t, made(t, whole, i, 40)), api.OK)
			}
			checkLeave(t, "in another order", f, m, other)
		}
		for n := uint64(40); n < 120; n++ {
			checkFlockOfTree(t, f, whole, held, n)
			same(t, "in another order", "On", f.On(told[n], false), api.OK)
		}
	}
}

// Rule R1: one that no call has made takes all calls, too.
func TestOfNobodysMaking(t *testing.T) {
	var c carry.Carry
	var f carry.Flock
	for n := range uint64(9) {
		c.On(api.Event{Size: n, Leaf: h(n), Peaks: c.Peaks()})
		c.Proof()
		c.Root()
		f.On(api.Event{Size: n, Leaf: h(n), Peaks: f.Peaks()}, n%2 == 0)
		f.Join(h(n), raw(t, api.Proof{Size: 1}))
		f.Proof(n)
		f.Held()
		f.Root()
		f.Leave(n)
	}
}
