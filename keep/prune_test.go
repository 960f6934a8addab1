package keep_test

import (
	"fmt"
	"slices"
	"testing"

	"massif/api"
	"massif/hash"
	"massif/keep"
	"massif/mmr"
	"massif/proof"
	"massif/verify"
)

// grow appends leaves by turns by Append, by Add and by Install, to both.
func grow(t *testing.T, k *keep.Keep, m *plain, leaves int, turn int) {
	t.Helper()
	for leaves > 0 {
		switch turn++; turn % 3 {
		case 0:
			x := h(1000 + m.n)
			same(t, "grown", "Append", k.Append(x), m.append(x))
			leaves--
		case 1:
			data := []byte{byte(m.n), 5}
			same(t, "grown", "Add", k.Add(data), m.append(hash.Leaf(m.w, data)))
			leaves--
		case 2:
			more := hashes(2000+m.n, min(leaves, 3))
			same(t, "grown", "Install", k.Install(m.next(more), uint64(len(more))), api.OK)
			for _, l := range more {
				m.append(l)
			}
			leaves -= len(more)
		}
	}
}

// pruned prunes both, holds them against each other, and the keep against 11.6: a second Prune has nothing to do.
func pruned(t *testing.T, when string, k *keep.Keep, m *plain) {
	t.Helper()
	same(t, when, "Prune", k.Prune(), m.prune())
	hold(t, when+", pruned", k, m)
	same(t, when, "Prune again", k.Prune(), 0)
	hold(t, when+", pruned twice", k, m)
}

// Promises 11.2, 11.3, 11.6 and 11.7: all small sizes, each set of pinned leaves, pruned, grown, pruned again.
func TestPruneEachSet(t *testing.T) {
	for n := range uint64(9) {
		for turn, set := range sets(n) {
			k, m := of(t, 1+turn%32, turn%4, 3, int(n))
			for _, i := range set {
				same(t, "all live", "Pin", k.Pin(i), m.pin(i))
			}
			when := fmt.Sprintf("%d leaves, %v pinned", n, set)
			pruned(t, when, k, m)
			grow(t, k, m, 1+turn%7, turn)
			hold(t, when+", grown", k, m)
			if last := m.n - 1; turn%2 == 0 {
				same(t, when, "Pin of the last leaf", k.Pin(last), m.pin(last))
			}
			if len(set) > 1 {
				same(t, when, "Unpin", k.Unpin(set[0]), m.unpin(set[0]))
			}
			pruned(t, when+", grown", k, m)
		}
	}
}

// Promise 11.7: each set of leaves is proved at once, or refused, just where all its nodes live, or not.
func TestProveManyOfPruned(t *testing.T) {
	for n := range uint64(8) {
		for turn, set := range sets(n) {
			k, m := of(t, 32, 0, 3, int(n))
			for _, i := range set {
				k.Pin(i)
				m.pin(i)
			}
			k.Prune()
			m.prune()
			grow(t, k, m, turn%3, turn)
			for _, index := range sets(m.n) {
				holdMany(t, fmt.Sprintf("%d leaves, %v pinned", n, set), k, m, index)
			}
		}
	}
}

// Promise 11.6: without pins just the peaks live, as many as the size has set bits, at every size; the answer is how many
// went. Leaves that come behind make what they make of a tree that was never pruned.
func TestPruneToPeaks(t *testing.T) {
	k, tree := fresh(t, 3, 1), fresh(t, 3, 1)
	for n := range uint64(200) {
		when := fmt.Sprintf("%d leaves", n)
		lived := len(k.Live())
		want := placesOf(peaks(n))
		same(t, when, "Prune", k.Prune(), uint64(lived-len(want)))
		sameList(t, when, "Live", k.Live(), want)
		same(t, when, "Chunks", k.Chunks(), chunksOf(want, 1))
		sameList(t, when, "Peaks", k.Peaks(), tree.Peaks())
		same(t, when, "Root", k.Root(), tree.Root())
		same(t, when, "Size", k.Size(), n)
		same(t, when, "Append", k.Append(h(n)), tree.Append(h(n)))
	}
}

// Promise 11.6: Prune changes nothing that Size, Peaks, Root, Pins and Pinned answer.
func TestPruneChangesNothingElse(t *testing.T) {
	k, _ := of(t, 32, 2, 0, 21)
	for _, i := range []uint64{4, 4, 20, 7} {
		k.Pin(i)
	}
	size, root, peaks, pinned := k.Size(), k.Root(), k.Peaks(), k.Pinned()
	if k.Prune() == 0 {
		t.Fatal("Prune has nothing to do")
	}
	same(t, "pruned", "Size", k.Size(), size)
	same(t, "pruned", "Root", k.Root(), root)
	sameList(t, "pruned", "Peaks", k.Peaks(), peaks)
	sameList(t, "pruned", "Pinned", k.Pinned(), pinned)
	for i, want := range map[uint64]int{4: 2, 20: 1, 7: 1, 0: 0, 21: 0} {
		same(t, "pruned", fmt.Sprintf("Pins(%d)", i), k.Pins(i), want)
	}
}

// Promise 11.7: what is told is what a tree tells that was never pruned; what is refused is refused for a node that does
// not live, and for nothing else.
func TestProofsOfANeverPruned(t *testing.T) {
	for seed := range dice(8) {
		d := seed
		k := fresh(t, 32, int(seed))
		tree, _ := mmr.New(32, 3)
		for n := uint64(1); n < 70; n++ {
			k.Append(h(n))
			tree.Append(h(n))
			if d.next(4) == 0 {
				k.Pin(d.next(n))
			}
			if d.next(6) == 0 {
				k.Prune()
			}
			for i := range n {
				places, _ := proof.Places(i, n)
				want, _ := proof.Make(tree, i, n)
				got, e := k.Prove(i)
				checkToldOrRefused(t, k, places, sameProof(got, want), sameProof(got, api.Proof{}), e)
				places, _ = proof.PrefixPlaces(i, n)
				prefix, _ := proof.MakePrefix(tree, i, n)
				gotPrefix, e := k.ProvePrefix(i)
				checkToldOrRefused(t, k, places, samePrefix(gotPrefix, prefix), samePrefix(gotPrefix, api.Prefix{}), e)
			}
		}
	}
}

func checkToldOrRefused(t *testing.T, k *keep.Keep, places []uint64, right, zero bool, e api.Errno) {
	t.Helper()
	gone := slices.ContainsFunc(places, func(p uint64) bool {
		_, e := k.Node(p)
		return e != api.OK
	})
	if gone && (e != api.ErrPruned || !zero) {
		t.Fatalf("size %d: one of %v lives not, and the proof is %v", k.Size(), places, e)
	}
	if !gone && (e != api.OK || !right) {
		t.Fatalf("size %d: %v live, and the proof is %v, or another one", k.Size(), places, e)
	}
}

// Promise 11.8: a leaf that was pinned when it came, or later, is proved at every later size, whatever is pruned.
func TestPinnedIsAlwaysProved(t *testing.T) {
	for from := uint64(1); from < 18; from++ {
		for i := range from {
			for every := 1; every < 4; every++ {
				k, m := of(t, 2, 1, 0, int(from))
				same(t, "all live", "Pin", k.Pin(i), m.pin(i))
				for turn := range 12 {
					if turn%every == 0 {
						k.Prune()
					}
					checkProved(t, k, m, i)
					grow(t, k, m, 1+turn%4, turn+every)
				}
				checkProved(t, k, m, i)
			}
		}
	}
}

// checkProved tells whether a leaf's proof is the one of the whole forest, and leads to the root.
func checkProved(t *testing.T, k *keep.Keep, m *plain, i uint64) {
	t.Helper()
	p, e := k.Prove(i)
	if e != api.OK || !slices.Equal(p.Nodes, m.pick(ofLeaf(i, m.n))) {
		t.Fatalf("pinned leaf %d of %d: %v, %v", i, m.n, p, e)
	}
	b, _ := proof.Encode(p)
	leaf := m.nodes[place(at(0, i))]
	same(t, "pinned", "Member", verify.Member(m.w, k.Root(), m.n, i, leaf, b), api.OK)
}

// Promises 11.2, 11.3 and 11.6 to 11.8: runs of all calls as they are drawn, held against the plain keep after each one.
func TestRuns(t *testing.T) {
	for seed := range dice(40) {
		d := seed
		w, log := 1+int(d.next(32)), int(d.next(7))
		k, m := fresh(t, w, log), empty(w, log)
		for step := range 60 {
			when := fmt.Sprintf("run %d, step %d, %d leaves", seed, step, m.n)
			move(t, when, k, m, &d)
			hold(t, when, k, m)
		}
	}
}

// move does one call that is drawn to both, and holds what they answer against each other.
func move(t *testing.T, when string, k *keep.Keep, m *plain, d *dice) {
	t.Helper()
	i := d.next(m.n + 2)
	switch d.next(6) {
	case 0, 1:
		grow(t, k, m, 1+int(d.next(4)), int(d.next(3)))
	case 2, 3:
		same(t, when, fmt.Sprintf("Pin(%d)", i), k.Pin(i), m.pin(i))
	case 4:
		if l := m.pinned(); len(l) > 0 && d.next(3) > 0 {
			i = l[d.next(uint64(len(l)))]
		}
		same(t, when, fmt.Sprintf("Unpin(%d)", i), k.Unpin(i), m.unpin(i))
	case 5:
		same(t, when, "Prune", k.Prune(), m.prune())
	}
}

// Promises 11.2 and 11.3: all runs of six of these calls.
func TestAllShortRuns(t *testing.T) {
	moves := []func(k *keep.Keep, m *plain) (uint64, uint64){
		func(k *keep.Keep, m *plain) (uint64, uint64) { return k.Append(h(m.n)), m.append(h(m.n)) },
		func(k *keep.Keep, m *plain) (uint64, uint64) { return uint64(k.Pin(0)), uint64(m.pin(0)) },
		func(k *keep.Keep, m *plain) (uint64, uint64) { return uint64(k.Pin(1)), uint64(m.pin(1)) },
		func(k *keep.Keep, m *plain) (uint64, uint64) { return uint64(k.Unpin(0)), uint64(m.unpin(0)) },
		func(k *keep.Keep, m *plain) (uint64, uint64) { return uint64(k.Unpin(1)), uint64(m.unpin(1)) },
		func(k *keep.Keep, m *plain) (uint64, uint64) { return k.Prune(), m.prune() },
	}
	const long = 6
	runs := 1
	for range long {
		runs *= len(moves)
	}
	for run := range runs {
		k, m := of(t, 32, 0, 0, 2)
		for rest, step := run, 0; step < long; rest, step = rest/len(moves), step+1 {
			if got, want := moves[rest%len(moves)](k, m); got != want {
				t.Fatalf("run %d, step %d is %d, want %d", run, step, got, want)
			}
		}
		sameList(t, "short run", "Live", k.Live(), m.living())
		sameList(t, "short run", "Pinned", k.Pinned(), m.pinned())
		for i := range m.n {
			same(t, "short run", "Pins", k.Pins(i), m.pins[i])
		}
	}
}
