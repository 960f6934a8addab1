package keep_test

import (
	"fmt"
	"slices"
	"testing"

	"massif/api"
	"massif/keep"
)

// refuse asks for what is refused, of a keep that is pruned and has a leaf with no pin.
func refuse(t *testing.T, k *keep.Keep) {
	t.Helper()
	n := k.Size()
	for _, i := range []uint64{n, far} {
		same(t, "refused", "Pin", k.Pin(i), api.ErrIndex)
		same(t, "refused", "Unpin", k.Unpin(i), api.ErrIndex)
		_, e := k.Prove(i)
		same(t, "refused", "Prove", e, api.ErrIndex)
		_, e = k.ProveMany([]uint64{i})
		same(t, "refused", "ProveMany", e, api.ErrIndex)
	}
	same(t, "refused", "Pin", k.Pin(0), api.ErrPruned)
	same(t, "refused", "Unpin", k.Unpin(0), api.ErrPin)
	_, e := k.ProvePrefix(n + 1)
	same(t, "refused", "ProvePrefix", e, api.ErrSize)
	_, e = k.ProveMany([]uint64{1, 0})
	same(t, "refused", "ProveMany", e, api.ErrOrder)
	same(t, "refused", "Install", k.Install(hashes(0, 9), far), api.ErrSize)
	same(t, "refused", "Install", k.Install(hashes(0, 9), 1), api.ErrCount)
}

// Rule R2: calls that are refused change nothing, now or later.
func TestRefusedChangesNothing(t *testing.T) {
	k, m := of(t, 32, 1, 0, 10)
	k.Pin(7)
	m.pin(7)
	k.Prune()
	m.prune()
	for turn := range 20 {
		refuse(t, k)
		hold(t, "refused", k, m)
		grow(t, k, m, 1, turn)
		if turn%4 == 3 {
			pruned(t, "refused, grown", k, m)
		}
	}
}

// Rule R2: where several errors apply, the first is the answer: of indices the order, then whether there is such a leaf,
// and whether the nodes live last.
func TestFirstError(t *testing.T) {
	k, _ := of(t, 32, 1, 0, 10)
	k.Prune()
	for _, c := range []struct {
		index []uint64
		want  api.Errno
	}{
		{[]uint64{2, 2, 10}, api.ErrOrder}, {[]uint64{10, 2}, api.ErrIndex}, {[]uint64{0, 10}, api.ErrIndex}, {[]uint64{0, 1}, api.ErrPruned}, {[]uint64{3, 2}, api.ErrOrder}, {nil, api.OK},
	} {
		_, e := k.ProveMany(c.index)
		same(t, "first error", fmt.Sprintf("ProveMany(%v)", c.index), e, c.want)
	}
	crowd, _ := crowded(t, 1, full)
	same(t, "first error", "Pin", crowd.Pin(3), api.ErrIndex)
	// 2^30 pins of a leaf whose nodes do not live are none that From takes; a pin of it keeps them.
	crowd.Prune()
	same(t, "first error", "Pin", crowd.Pin(0), api.ErrPruned)
	same(t, "first error", "Pin", crowd.Pin(1), api.ErrFull)
}

// overwrite writes over all of a list, and behind it, as far as it has room.
func overwrite[T any](l []T, with T) {
	l = append(l, with)
	l = l[:cap(l)]
	for i := range l {
		l[i] = with
	}
}

// Rule R3: answers that are written over, their spare room too, change nothing.
func TestAnswersAreNew(t *testing.T) {
	for n := uint64(1); n < 20; n++ {
		k, m := of(t, 32, 1, 0, int(n))
		k.Pin(n / 2)
		m.pin(n / 2)
		for range 2 {
			live, peaks, pinned := k.Live(), k.Peaks(), k.Pinned()
			p, _ := k.Prove(n / 2)
			q, _ := k.ProvePrefix(n)
			r, _ := k.ProveMany([]uint64{n / 2})
			other, _ := k.ProveMany([]uint64{n / 2})
			want := api.Many{Size: n, Index: slices.Clone(r.Index), Nodes: slices.Clone(r.Nodes)}
			overwrite(live, far)
			overwrite(pinned, far)
			overwrite(peaks, h(99))
			overwrite(p.Nodes, h(99))
			overwrite(q.Nodes, h(99))
			overwrite(r.Nodes, h(99))
			overwrite(r.Index, far)
			if !sameMany(other, want) {
				t.Fatalf("%d leaves: two proofs share memory", n)
			}
			hold(t, "written over", k, m)
			k.Prune()
			m.prune()
		}
	}
}

// Rule R3: two lists of one kind that are answered share nothing.
func TestAnswersShareNothing(t *testing.T) {
	k, m := of(t, 32, 1, 0, 21)
	k.Pin(3)
	k.Pin(9)
	m.pin(3)
	m.pin(9)
	live, peaks, pinned := k.Live(), k.Peaks(), k.Pinned()
	overwrite(k.Live(), far)
	overwrite(k.Peaks(), h(99))
	overwrite(k.Pinned(), far)
	sameList(t, "beside another", "Live", live, m.living())
	sameList(t, "beside another", "Peaks", peaks, m.peaks())
	sameList(t, "beside another", "Pinned", pinned, m.pinned())
}

// Rule R3: lists and maps that are handed in are not changed, not read behind their length, and not kept.
func TestHandedInIsNotKept(t *testing.T) {
	for n := uint64(1); n < 12; n++ {
		m := grown(32, 1, 0, int(n))
		m.pin(n - 1)
		m.prune()
		x := m.parts()
		places, nodes := behind(x.places, 0, far), behind(x.nodes, h(7), h(8))
		k, e, _ := keep.From(32, 1, n, places, nodes, x.pins)
		if e != api.OK {
			t.Fatalf("From is %v", e)
		}
		sameList(t, "handed in", "places", places[:len(places)+2], append(slices.Clone(m.living()), 0, far))
		sameList(t, "handed in", "nodes", nodes[:len(nodes)+2], append(m.pick(m.living()), h(7), h(8)))
		if len(x.pins) != 1 || x.pins[n-1] != 1 {
			t.Fatalf("pins are changed: %v", x.pins)
		}
		overwrite(places, far)
		overwrite(nodes, h(99))
		x.pins[0] = 9
		delete(x.pins, n-1)
		hold(t, "written over", k, m)

		k.Unpin(n - 1)
		k.Pin(n - 1)
		if len(x.pins) > 1 || n > 1 && x.pins[0] != 9 {
			t.Fatalf("pins change with the keep: %v", x.pins)
		}
		checkGrownFromLists(t, k, m)
	}
}

// checkGrownFromLists does so of Install, Add and ProveMany.
func checkGrownFromLists(t *testing.T, k *keep.Keep, m *plain) {
	t.Helper()
	more := hashes(50, 3)
	nodes := behind(m.next(more), h(7))
	was := slices.Clone(nodes[:len(nodes)+1])
	same(t, "handed in", "Install", k.Install(nodes, 3), api.OK)
	sameList(t, "handed in", "nodes", nodes[:len(nodes)+1], was)
	overwrite(nodes, h(99))
	for _, l := range more {
		m.append(l)
	}
	hold(t, "installed, written over", k, m)
	index := behind([]uint64{m.n - 1}, 0, far)
	p, e := k.ProveMany(index)
	same(t, "handed in", "ProveMany", e, api.OK)
	sameList(t, "handed in", "index", index[:3], []uint64{m.n - 1, 0, far})
	overwrite(index, far)
	sameList(t, "written over", "Index", p.Index, []uint64{m.n - 1})
	data := []byte{1, 2, 3, 4}
	k.Add(data[:2])
	x, _ := keep.New(m.w, 0)
	x.Add([]byte{1, 2})
	leaf, _ := x.Node(0)
	got, _ := k.Node(uint64(len(m.nodes)))
	same(t, "handed in", "Add", got, leaf)
	sameList(t, "handed in", "data", data, []byte{1, 2, 3, 4})
}

// Rule R4: two keeps, in turns, by unlike leaves and pins, have nothing to do with one another; nor have two that came of
// the same lists.
func TestTwoKeeps(t *testing.T) {
	for seed := range dice(10) {
		d, e := seed, seed+100
		a, ofA := of(t, 32, 2, 0, 5)
		b, ofB := of(t, 32, 2, 0, 5)
		if seed%2 == 1 {
			b, ofB = again(t, "two keeps", a), ofA.clone()
		}
		for step := range 30 {
			when := fmt.Sprintf("two keeps, run %d, step %d", seed, step)
			move(t, when, a, ofA, &d)
			move(t, when, b, ofB, &e)
			hold(t, when+", a", a, ofA)
			hold(t, when+", b", b, ofB)
		}
	}
}

// Rule R4: nothing hangs on the order of a map: the same pins, come in any order, leave the same keep.
func TestOrderOfPins(t *testing.T) {
	leaves := []uint64{0, 3, 4, 9, 17, 30, 31, 32}
	var want []uint64
	for turn := range leaves {
		k, _ := of(t, 32, 2, 0, 40)
		for j := range leaves {
			k.Pin(leaves[(j*3+turn)%len(leaves)])
		}
		k.Prune()
		if turn == 0 {
			want = k.Live()
		}
		sameList(t, "in another order", "Live", k.Live(), want)
		sameList(t, "in another order", "Pinned", k.Pinned(), leaves)
	}
}
