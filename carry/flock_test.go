package carry_test

import (
	"fmt"
	"maps"
	"slices"
	"testing"

	"massif/api"
	"massif/carry"
	"massif/mmr"
	"massif/proof"
)

// checkFlock has a flock and the herd hear of an event, and holds all of it.
func checkFlock(t *testing.T, when string, f *carry.Flock, m *herd, ev api.Event, holds bool) {
	t.Helper()
	want := m.on(t, ev, holds)
	same(t, when, "On", f.On(ev, holds), want)
	holdFlock(t, when, f, m)
}

// checkJoin has a leaf join both of them.
func checkJoin(t *testing.T, when string, f *carry.Flock, m *herd, leaf api.Hash, b []byte, want api.Errno) {
	t.Helper()
	same(t, when, "the herd's join", m.join(leaf, b), want)
	same(t, when, "Join", f.Join(leaf, b), want)
}

func checkLeave(t *testing.T, when string, f *carry.Flock, m *herd, i uint64) {
	t.Helper()
	want := m.leave(i)
	same(t, when, "Leave", f.Leave(i), want)
}

// The examples of chapter 12, of many leaves.
func TestFlockExamples(t *testing.T) {
	a := h(1)
	f, e := carry.NewFlock(32, 0, nil)
	same(t, "example", "NewFlock", e, api.OK)
	same(t, "example", "On", f.On(api.Event{Leaf: a}, true), api.OK)
	p, e := f.Proof(0)
	if e != api.OK || !sameProof(p, api.Proof{Size: 1}) {
		t.Fatalf("Proof(0) is %v, %v", p, e)
	}
	p, e = f.Proof(1)
	if e != api.ErrIndex || !sameProof(p, api.Proof{}) {
		t.Fatalf("Proof(1) is %v, %v", p, e)
	}
	sameList(t, "example", "Held", f.Held(), []uint64{0})
	sameList(t, "example", "Peaks", f.Peaks(), []api.Hash{a})
}

// Promise 12.4: what Bag says of a size and peaks; else a flock without leaves.
func TestNewFlock(t *testing.T) {
	sizes := append([]uint64{0, 1, 2, 3, 7, 8, 21, 255, most - 1, most}, beyond()...)
	for _, w := range widths() {
		for _, n := range sizes {
			for k := range 66 {
				peaks := hashes(uint64(k), k)
				root, want := mmr.Bag(w, n, peaks)
				f, e := carry.NewFlock(w, n, peaks)
				if e != want || (f == nil) != (want != api.OK) {
					t.Fatalf("NewFlock(%d, %d, %d peaks) is %v, %v, want %v", w, n, k, f, e, want)
				}
				if f != nil {
					same(t, "new", "Root", f.Root(), root)
					holdFlock(t, "new", f, newHerd(w, n, peaks))
				}
			}
		}
	}
	for _, c := range []struct {
		n     uint64
		peaks int
		want  api.Errno
	}{
		{0, 0, api.OK}, {0, 1, api.ErrCount}, {1, 0, api.ErrCount}, {1, 1, api.OK}, {1, 2, api.ErrCount}, {3, 1, api.ErrCount}, {most, 1, api.OK}, {most, 0, api.ErrCount}, {most, 2, api.ErrCount}, {most - 1, 62, api.OK}, {most - 1, 61, api.ErrCount}, {most + 1, 2, api.ErrSize}, {most + 1, 0, api.ErrSize}, {far, 64, api.ErrSize}, {far, 0, api.ErrSize},
	} {
		_, e := carry.NewFlock(32, c.n, hashes(0, c.peaks))
		same(t, fmt.Sprintf("NewFlock of %d, %d peaks", c.n, c.peaks), "the error", e, c.want)
	}
}

// Promises 12.5, 12.8 and 12.9: flocks that hold none, one, some and all leaves of a growing tree, from the empty one on,
// against the tree and a carry of each leaf.
func TestFlocksOfATree(t *testing.T) {
	for _, w := range []int{1, 32} {
		const last = 70
		leaves := hashes(7, last)
		whole := tree(t, w, leaves)
		told := events(w, leaves)
		for _, which := range []func(n uint64) bool{
			func(uint64) bool { return false }, func(uint64) bool { return true }, func(n uint64) bool { return n == 0 }, func(n uint64) bool { return n == 21 }, func(n uint64) bool { return n == last-1 }, func(n uint64) bool { return n%3 == 1 }, func(n uint64) bool { return n%8 > 5 }, func(n uint64) bool { return n < 16 },
		} {
			f, m := flocked(t, w, 0, nil)
			for n, ev := range told {
				checkFlock(t, fmt.Sprintf("width %d, at %d", w, n), f, m, ev, which(uint64(n)))
				checkFlockOfTree(t, f, whole, m.indices(), uint64(n)+1)
			}
		}
	}
}

// checkFlockOfTree holds a flock's proofs and root against what a tree made, or makes, at a size.
func checkFlockOfTree(t *testing.T, f *carry.Flock, whole *mmr.Tree, held []uint64, n uint64) {
	t.Helper()
	root, _ := whole.Old(n)
	same(t, "of a tree", "Root", f.Root(), root)
	sameList(t, "of a tree", "Held", f.Held(), held)
	for _, i := range held {
		want := made(t, whole, i, n)
		if p, e := f.Proof(i); e != api.OK || !sameProof(p, want) {
			t.Fatalf("Proof(%d) at %d is %v, %v, want %v", i, n, p, e, want)
		}
	}
}

// Promise 12.9: of each leaf a flock holds what a carry holds that began with its proof, whenever it joined.
func TestFlockAgainstCarries(t *testing.T) {
	const last = 50
	leaves := hashes(3, last)
	whole := tree(t, 32, leaves)
	told := events(32, leaves)
	for n := uint64(1); n < last; n++ {
		f, _ := carry.NewFlock(32, n, told[n].Peaks)
		carries := map[uint64]*carry.Carry{}
		for i := range n {
			p := made(t, whole, i, n)
			same(t, "a carry of each", "Join", f.Join(leaves[i], raw(t, p)), api.OK)
			carries[i], _ = carried(t, 32, leaves[i], p)
		}
		for _, ev := range told[n:] {
			same(t, "a carry of each", "On", f.On(ev, true), api.OK)
			for i, c := range carries {
				same(t, "a carry of each", "the carry's On", c.On(ev), api.OK)
				if p, e := f.Proof(i); e != api.OK || !sameProof(p, c.Proof()) {
					t.Fatalf("Proof(%d) at %d is %v, %v, want %v", i, ev.Size+1, p, e, c.Proof())
				}
			}
			p, _ := f.Proof(ev.Size)
			carries[ev.Size], _ = carried(t, 32, ev.Leaf, p)
			for _, c := range carries {
				same(t, "a carry of each", "Root", c.Root(), f.Root())
				sameList(t, "a carry of each", "Peaks", c.Peaks(), f.Peaks())
			}
		}
		sameList(t, "a carry of each", "Held", f.Held(), slices.Sorted(maps.Keys(carries)))
	}
}

// move does one of the things that can be done to a flock.
func move(t *testing.T, when string, f *carry.Flock, m *herd, whole *mmr.Tree, leaves []api.Hash, d *dice) {
	t.Helper()
	i := d.next(m.n + 1)
	switch d.next(4) {
	case 0:
		checkLeave(t, when, f, m, i)
	case 1:
		if i < m.n {
			b := raw(t, made(t, whole, i, m.n))
			same(t, when, "Join", f.Join(leaves[i], b), m.join(leaves[i], b))
		}
	default:
		ev := m.event(leaves[m.n])
		same(t, when, "On", f.On(ev, i%2 == 0), m.on(t, ev, i%2 == 0))
	}
}

// Promises 12.5, 12.6 and 12.9: leaves that join late, leave and join again, in runs that are drawn.
func TestFlockRuns(t *testing.T) {
	for seed := range dice(30) {
		d := seed
		w := widths()[seed%9]
		leaves := hashes(uint64(seed), 300)
		whole := tree(t, w, leaves)
		n := d.next(40)
		f, m := flocked(t, w, n, events(w, leaves)[n].Peaks)
		for step := range 120 {
			when := fmt.Sprintf("run %d, step %d", seed, step)
			move(t, when, f, m, whole, leaves, &d)
			holdFlock(t, when, f, m)
			checkFlockOfTree(t, f, whole, m.indices(), m.n)
		}
	}
}

// Promise 12.5: great sizes with any peaks, up to the last append; leaves that are held on the way.
func TestFlockAtGreatSizes(t *testing.T) {
	for k, n := range great() {
		when := fmt.Sprintf("from %d on", n)
		f, m := flocked(t, 32, n, anyPeaks(n, uint64(100*k)))
		for j := range uint64(12) {
			checkFlock(t, when, f, m, m.event(h(j)), j%3 != 1)
		}
	}
}

// Promise 12.6: leaves join at great sizes, by proofs of any nodes, if the flock has the peaks that follow.
func TestJoinAtGreatSizes(t *testing.T) {
	for k, n := range great() {
		for _, i := range within(n) {
			when := fmt.Sprintf("leaf %d of %d", i, n)
			x := &plain{32, h(i), anyProof(i, n, uint64(100*k))}
			f, m := flocked(t, 32, n, x.peaks())
			checkJoin(t, when, f, m, turned(x.leaf, 9), raw(t, x.p), api.ErrRoot)
			checkJoin(t, when, f, m, x.leaf, raw(t, x.p), api.OK)
			checkJoin(t, when, f, m, x.leaf, raw(t, x.p), api.ErrLive)
			for range 3 {
				checkFlock(t, when, f, m, m.event(h(i+1)), false)
			}
		}
	}
}

// Promise 12.5: the errors of 12.3, by its own size and peaks, whether the new leaf is to be held or not; each changes
// nothing.
func TestFlockRefuses(t *testing.T) {
	leaves := hashes(7, 40)
	told := events(32, leaves)
	for n := range uint64(39) {
		f, m := flocked(t, 32, n, told[n].Peaks)
		checkFlock(t, "ahead", f, m, told[n], true)
		n := n + 1
		for _, hold := range []bool{false, true} {
			for size, ev := range told {
				if uint64(size) != n {
					same(t, "late", "On", f.On(ev, hold), api.ErrLate)
					same(t, "late", "On", f.On(api.Event{Size: uint64(size), Peaks: f.Peaks()}, hold), api.ErrLate)
				}
			}
			for _, size := range append(beyond(), n+1<<32, n^1<<63, most-1, most) {
				same(t, "late", "On", f.On(api.Event{Size: size, Peaks: f.Peaks()}, hold), api.ErrLate)
				same(t, "late", "On", f.On(api.Event{Size: size}, hold), api.ErrLate)
			}
			holdFlock(t, "late", f, m)
			for _, peaks := range wrongPeaks(f.Peaks()) {
				same(t, "other peaks", "On", f.On(api.Event{Size: n, Leaf: h(3), Peaks: peaks}, hold), api.ErrPeaks)
			}
			holdFlock(t, "other peaks", f, m)
		}
	}
}

// Promise 12.5: of an empty forest each list of peaks but the empty one is wrong.
func TestFlockEmpty(t *testing.T) {
	f, m := flocked(t, 32, 0, nil)
	same(t, "empty", "On", f.On(api.Event{Peaks: hashes(0, 1)}, true), api.ErrPeaks)
	same(t, "empty", "On", f.On(api.Event{Size: 1}, true), api.ErrLate)
	same(t, "empty", "Join", f.Join(h(1), raw(t, api.Proof{Size: 1})), api.ErrSize)
	same(t, "empty", "Leave", f.Leave(0), api.ErrIndex)
	holdFlock(t, "empty", f, m)
	checkFlock(t, "empty", f, m, api.Event{Leaf: h(4), Peaks: []api.Hash{}}, false)
}

// Promise 12.5: a full forest.
func TestFlockFull(t *testing.T) {
	f, m := flocked(t, 32, most-1, anyPeaks(most-1, 5))
	checkFlock(t, "the last append", f, m, m.event(h(6)), true)
	for _, hold := range []bool{false, true} {
		for _, peaks := range [][]api.Hash{f.Peaks(), nil, hashes(0, 1), hashes(0, 62)} {
			same(t, "full", "On", f.On(api.Event{Size: most, Peaks: peaks}, hold), api.ErrFull)
			for _, n := range append(beyond(), 0, 1, most-1) {
				same(t, "full", "On", f.On(api.Event{Size: n, Peaks: peaks}, hold), api.ErrLate)
			}
		}
	}
	holdFlock(t, "full", f, m)
}

// crowded is a flock that holds as many leaves as one can, those that were appended to a forest of from leaves; and them.
func crowded(t *testing.T, from uint64) (*carry.Flock, []api.Hash) {
	t.Helper()
	f, e := carry.NewFlock(32, from, anyPeaks(from, 900))
	same(t, "crowded", "NewFlock", e, api.OK)
	leaves := hashes(1, crowd)
	for k, leaf := range leaves {
		ev := api.Event{Size: from + uint64(k), Leaf: leaf, Peaks: f.Peaks()}
		if e := f.On(ev, true); e != api.OK {
			t.Fatalf("On with %d held is %v", k, e)
		}
	}
	same(t, "crowded", "how many are held", len(f.Held()), crowd)
	return f, leaves
}

// Promises 12.5 and 12.6: with MaxFlock leaves none is held more, by On or Join, and each other error stands ahead; events
// go on without hold; where one leaves another one has room.
func TestFlockCrowded(t *testing.T) {
	f, leaves := crowded(t, 0)
	whole := tree(t, 32, leaves)
	next := func() api.Event { return api.Event{Size: f.Size(), Leaf: h(5000), Peaks: f.Peaks()} }
	held := f.Held()
	checkFlockOfTree(t, f, whole, held, crowd)

	same(t, "crowded", "On", f.On(next(), true), api.ErrLong)
	same(t, "crowded", "On", f.On(api.Event{Size: crowd - 1, Peaks: f.Peaks()}, true), api.ErrLate)
	same(t, "crowded", "On", f.On(api.Event{Size: crowd, Leaf: h(2)}, true), api.ErrPeaks)
	checkFlockOfTree(t, f, whole, held, crowd)

	same(t, "crowded", "On", f.On(next(), false), api.OK)
	whole.Append(h(5000))
	checkFlockOfTree(t, f, whole, held, crowd+1)
	same(t, "crowded", "On", f.On(next(), true), api.ErrLong)

	last := raw(t, made(t, whole, crowd, crowd+1))
	same(t, "crowded", "Join", f.Join(h(5000), last), api.ErrLong)
	same(t, "crowded", "Join", f.Join(h(5001), last), api.ErrRoot)
	same(t, "crowded", "Join", f.Join(leaves[7], raw(t, made(t, whole, 7, crowd+1))), api.ErrLive)
	same(t, "crowded", "Join", f.Join(h(5001), raw(t, made(t, whole, 7, crowd+1))), api.ErrLive)
	same(t, "crowded", "Join", f.Join(leaves[7], raw(t, made(t, whole, 7, crowd))), api.ErrSize)
	same(t, "crowded", "Join", f.Join(h(5000), last[:len(last)-1]), api.ErrCut)
	checkFlockOfTree(t, f, whole, held, crowd+1)

	same(t, "crowded", "Leave", f.Leave(9), api.OK)
	same(t, "crowded", "Join", f.Join(h(5000), last), api.OK)
	held = append(slices.Delete(held, 9, 10), crowd)
	checkFlockOfTree(t, f, whole, held, crowd+1)
	same(t, "crowded", "On", f.On(next(), true), api.ErrLong)
	same(t, "crowded", "Leave", f.Leave(crowd), api.OK)
	same(t, "crowded", "On", f.On(next(), true), api.OK)
	whole.Append(h(5000))
	checkFlockOfTree(t, f, whole, append(held[:crowd-1], crowd+1), crowd+2)
}

// Promise 12.5: with MaxFlock leaves of a full forest, that it is full is told first.
func TestFlockCrowdedAndFull(t *testing.T) {
	f, leaves := crowded(t, most-crowd)
	same(t, "crowded and full", "Size", f.Size(), most)
	for _, hold := range []bool{false, true} {
		same(t, "crowded and full", "On", f.On(api.Event{Size: most, Peaks: f.Peaks()}, hold), api.ErrFull)
		same(t, "crowded and full", "On", f.On(api.Event{Size: most}, hold), api.ErrFull)
		same(t, "crowded and full", "On", f.On(api.Event{Size: most - 1, Peaks: f.Peaks()}, hold), api.ErrLate)
	}
	for k := 0; k < crowd; k += 97 {
		i := most - crowd + uint64(k)
		p, e := f.Proof(i)
		same(t, "crowded and full", "Proof", e, api.OK)
		c, _ := carried(t, 32, leaves[k], p)
		sameList(t, "crowded and full", "a carry's Peaks", c.Peaks(), f.Peaks())
		same(t, "crowded and full", "a carry's Root", c.Root(), f.Root())
		same(t, "crowded and full", "Join", f.Join(leaves[k], raw(t, p)), api.ErrLive)
	}
}

// ofSome is a flock of a tree of n leaves that holds some of them, with all that belongs to it.
func ofSome(t *testing.T, n uint64, held ...uint64) (*carry.Flock, *herd, []api.Hash, *mmr.Tree) {
	t.Helper()
	leaves := hashes(7, int(n))
	whole := tree(t, 32, leaves)
	f, m := flocked(t, 32, n, whole.Peaks())
	for _, i := range held {
		checkJoin(t, "of some", f, m, leaves[i], raw(t, made(t, whole, i, n)), api.OK)
	}
	holdFlock(t, "of some", f, m)
	return f, m, leaves, whole
}

// Promise 12.6: each error of Join ahead of those behind it: bytes that Decode refuses, another size, a leaf that is held,
// one that doesn't climb to the peaks.
func TestJoinRefused(t *testing.T) {
	f, m, leaves, whole := ofSome(t, 21, 3, 20)
	held, free := raw(t, made(t, whole, 3, 21)), raw(t, made(t, whole, 4, 21))
	for _, b := range [][]byte{held, free} {
		for k := range b {
			checkJoin(t, "cut", f, m, leaves[4], b[:k:k], api.ErrCut)
			checkJoin(t, "cut", f, m, leaves[4], b[:k], api.ErrCut) // the bytes that lack lie behind its length
		}
		for first := range 256 {
			x := slices.Clone(b)
			x[0] = byte(first)
			if first != 77 {
				checkJoin(t, "another kind", f, m, leaves[4], x, api.ErrKind)
			}
		}
		checkJoin(t, "more", f, m, leaves[4], append(slices.Clone(b), 0), api.ErrTail)
	}
	checkJoin(t, "another form", f, m, leaves[4], []byte{77, 0x95, 0, 4}, api.ErrForm)
	checkJoin(t, "no size", f, m, leaves[4], append([]byte{77}, 0x81, 0x80, 0x80, 0x80, 0x80, 0x80, 0x80, 0x80, 0x40), api.ErrSize)
	checkJoin(t, "no index", f, m, leaves[4], []byte{77, 21, 21}, api.ErrIndex)
	for n := uint64(5); n < 60; n++ {
		if n != 21 {
			other := tree(t, 32, hashes(7, int(n)))
			for _, i := range []uint64{3, 4} {
				checkJoin(t, "another size", f, m, leaves[i], raw(t, made(t, other, i, n)), api.ErrSize)
			}
		}
	}
	checkJoin(t, "held", f, m, leaves[3], held, api.ErrLive)
	checkJoin(t, "held, of another leaf", f, m, leaves[4], held, api.ErrLive)
	checkJoin(t, "held, of other nodes", f, m, leaves[3], raw(t, anyProof(3, 21, 5)), api.ErrLive)
	checkJoin(t, "another leaf", f, m, leaves[5], free, api.ErrRoot)
	checkJoin(t, "other nodes", f, m, leaves[4], raw(t, anyProof(4, 21, 5)), api.ErrRoot)
	holdFlock(t, "refused", f, m)
	checkJoin(t, "behind all that", f, m, leaves[4], free, api.OK)
	holdFlock(t, "joined", f, m)
}

// Promise 12.6: each bit of the leaf and of the nodes is looked at.
func TestJoinOfTurnedBits(t *testing.T) {
	for _, n := range []uint64{1, 2, 3, 6, 7, 13} {
		for i := range n {
			f, m, leaves, whole := ofSome(t, n)
			p := made(t, whole, i, n)
			for bit := range 256 {
				checkJoin(t, "a turned leaf", f, m, turned(leaves[i], bit), raw(t, p), api.ErrRoot)
				for k := range p.Nodes {
					bad := api.Proof{Size: n, Index: i, Nodes: slices.Clone(p.Nodes)}
					bad.Nodes[k] = turned(bad.Nodes[k], bit)
					checkJoin(t, "a turned node", f, m, leaves[i], raw(t, bad), api.ErrRoot)
				}
			}
			holdFlock(t, "turned", f, m)
			checkJoin(t, "right", f, m, leaves[i], raw(t, p), api.OK)
			holdFlock(t, "right", f, m)
		}
	}
}

// Promise 12.6: with a small width other leaves and nodes join just where they climb to the same peaks, and are carried as
// they came.
func TestJoinOfSmallWidths(t *testing.T) {
	joined := 0
	for n := uint64(2); n < 20; n++ {
		leaves := hashes(7, 40)
		whole := tree(t, 1, leaves)
		told := events(1, leaves)
		for k := range uint64(150) {
			f, m := flocked(t, 1, n, told[n].Peaks)
			b := raw(t, made(t, whole, k%n, n))
			leaf := h(1000 + k)
			want := m.join(leaf, b)
			same(t, "small width", "Join", f.Join(leaf, b), want)
			if want != api.OK {
				continue
			}
			joined++
			for _, ev := range told[n : n+9] {
				checkFlock(t, "small width", f, m, ev, false)
			}
		}
	}
	if joined == 0 {
		t.Error("no other leaf has joined")
	}
}

// Promise 12.6: Leave and Proof of leaves that are not held, of such that left, and join again.
func TestLeave(t *testing.T) {
	f, m, leaves, whole := ofSome(t, 21, 0, 3, 16, 20)
	for _, i := range []uint64{1, 2, 4, 17, 19, 21, 22, 64, most - 1, most, far} {
		same(t, "not held", "Leave", f.Leave(i), api.ErrIndex)
	}
	holdFlock(t, "not held", f, m)
	for _, i := range []uint64{16, 0, 20, 3} {
		checkLeave(t, "held", f, m, i)
		holdFlock(t, "left", f, m)
		same(t, "left", "Leave", f.Leave(i), api.ErrIndex)
		p, e := f.Proof(i)
		if e != api.ErrIndex || !sameProof(p, api.Proof{}) {
			t.Fatalf("Proof of what left is %v, %v", p, e)
		}
	}
	same(t, "all have left", "how many are held", len(f.Held()), 0)
	checkFlock(t, "all have left", f, m, m.event(h(50)), true)
	whole.Append(h(50))
	for _, i := range []uint64{3, 16} {
		checkJoin(t, "again", f, m, leaves[i], raw(t, made(t, whole, i, 22)), api.OK)
	}
	for k := range uint64(20) {
		checkFlock(t, "again", f, m, m.event(h(60+k)), false)
	}
}

// Promise 12.4: Held rises, whatever the order in which leaves came.
func TestHeldRises(t *testing.T) {
	for seed := range dice(20) {
		d := seed
		f, m, leaves, whole := ofSome(t, 60)
		for range 40 {
			i := d.next(60)
			b := raw(t, made(t, whole, i, 60))
			same(t, "held", "Join", f.Join(leaves[i], b), m.join(leaves[i], b))
			sameList(t, "held", "Held", f.Held(), m.indices())
		}
	}
}

// Promises 12.5 and 12.8: leaves whose hashes are equal are told from each other by their indices.
func TestFlockOfEqualLeaves(t *testing.T) {
	leaves := slices.Repeat([]api.Hash{h(9)}, 40)
	whole := tree(t, 32, leaves)
	f, m := flocked(t, 32, 0, nil)
	for n, ev := range events(32, leaves) {
		checkFlock(t, "equal leaves", f, m, ev, n%2 == 0)
		checkFlockOfTree(t, f, whole, m.indices(), uint64(n)+1)
	}
	for i := uint64(1); i < 40; i += 4 {
		checkJoin(t, "equal leaves", f, m, h(9), raw(t, made(t, whole, i, 40)), api.OK)
	}
	holdFlock(t, "equal leaves", f, m)
}

// Promise 12.4: widths outside 1 to 32 count as the nearest.
func TestFlockWidths(t *testing.T) {
	for _, w := range widths() {
		inner := min(max(w, 1), 32)
		leaves := hashes(4, 40)
		whole := tree(t, inner, leaves)
		f, m := flocked(t, w, 0, nil)
		for n, ev := range events(inner, leaves) {
			checkFlock(t, "widths", f, m, ev, n%3 == 0)
		}
		checkFlockOfTree(t, f, whole, m.indices(), 40)
		checkJoin(t, "widths", f, m, leaves[5], raw(t, made(t, whole, 5, 40)), api.OK)
		p, _ := proof.Make(tree(t, 17, leaves), 7, 40)
		checkJoin(t, "another width", f, m, leaves[7], raw(t, p), api.ErrRoot)
	}
}
