package carry_test

import (
	"fmt"
	"slices"
	"testing"

	"massif/api"
	"massif/carry"
	"massif/hash"
	"massif/proof"
	"massif/verify"
)

// checkOn has a carry and the plain one hear of an event, and holds what they answer, and then all of it.
func checkOn(t *testing.T, when string, c *carry.Carry, m *plain, ev api.Event) {
	t.Helper()
	want := m.on(t, ev)
	same(t, when, "On", c.On(ev), want)
	hold(t, when, c, m)
}

// refuse has a carry hear of an event that it refuses: nothing is changed.
func refuse(t *testing.T, when string, c *carry.Carry, m *plain, ev api.Event, want api.Errno) {
	t.Helper()
	same(t, when, "On", c.On(ev), want)
	hold(t, when, c, m)
}

// The examples of chapter 12, of one leaf.
func TestCarryExamples(t *testing.T) {
	a, b, c, d := h(1), h(2), h(3), h(4)
	ab, cd := hash.Node(32, a, b), hash.Node(32, c, d)
	x, m := carried(t, 32, a, api.Proof{Size: 1})
	hold(t, "New", x, m)
	for _, y := range []struct {
		ev   api.Event
		e    api.Errno
		want []api.Hash
	}{
		{api.Event{Size: 1, Leaf: b, Peaks: []api.Hash{a}}, api.OK, []api.Hash{b}},
		{api.Event{Size: 2, Leaf: c, Peaks: []api.Hash{ab}}, api.OK, []api.Hash{b, c}},
		{api.Event{Size: 3, Leaf: d, Peaks: []api.Hash{ab, c}}, api.OK, []api.Hash{b, cd}},
		{api.Event{Size: 3, Leaf: d, Peaks: []api.Hash{ab, c}}, api.ErrLate, []api.Hash{b, cd}},
		{api.Event{Size: 4, Leaf: d, Peaks: []api.Hash{a}}, api.ErrPeaks, []api.Hash{b, cd}},
	} {
		same(t, "example", "On", x.On(y.ev), y.e)
		sameList(t, "example", "Nodes", x.Proof().Nodes, y.want)
		same(t, "example", "Index", x.Proof().Index, 0)
		same(t, "example", "Size", x.Proof().Size, x.Size())
	}
	same(t, "example", "Size", x.Size(), 4)
	sameList(t, "example", "Peaks", x.Peaks(), []api.Hash{hash.Node(32, ab, cd)})
}

// Promises 12.2, 12.3 and 12.8: each leaf of forests of all small sizes, its proof made at each size, carried to each
// later one; event by event it holds what the tree itself makes.
func TestCarriedFromEachSize(t *testing.T) {
	for _, w := range []int{1, 32} {
		const last = 36
		leaves := hashes(7, last)
		whole := tree(t, w, leaves)
		told := events(w, leaves)
		for n := uint64(1); n <= last; n++ {
			for i := range n {
				c, _ := carried(t, w, leaves[i], made(t, whole, i, n))
				for size := n; ; size++ {
					checkOfTree(t, w, c, whole, leaves[i], i, size)
					if size == last {
						break
					}
					if e := c.On(told[size]); e != api.OK {
						t.Fatalf("width %d, leaf %d from %d on: On at %d is %v", w, i, n, size, e)
					}
				}
			}
		}
	}
}

// checkOfTree holds a carry of the leaf i against what a tree made, or makes, at a size.
func checkOfTree(t *testing.T, w int, c *carry.Carry, s interface {
	proof.Source
	Old(n uint64) (api.Hash, api.Errno)
}, leaf api.Hash, i, size uint64) {
	t.Helper()
	when := fmt.Sprintf("width %d, leaf %d at %d", w, i, size)
	p := made(t, s, i, size)
	root, _ := s.Old(size)
	same(t, when, "Size", c.Size(), size)
	same(t, when, "Leaf", c.Leaf(), leaf)
	same(t, when, "Root", c.Root(), root)
	if got := c.Proof(); !sameProof(got, p) {
		t.Fatalf("%s: Proof is %v, want %v", when, got, p)
	}
	peaks, _ := verify.Climb(w, leaf, c.Proof())
	sameList(t, when, "Peaks", c.Peaks(), peaks)
	same(t, when, "Member", verify.Member(w, root, size, i, leaf, raw(t, c.Proof())), api.OK)
}

// Promise 12.8: a long way, with each width; the tree grows as the events are told.
func TestCarriedFar(t *testing.T) {
	for _, w := range widths() {
		x := tree(t, w, nil)
		var held []*carry.Carry
		var leaves []api.Hash
		for n := range uint64(260) {
			leaf := hash.Leaf(w, []byte{byte(n), byte(n >> 8)})
			ev := api.Event{Size: n, Leaf: leaf, Peaks: x.Peaks()}
			for _, c := range held {
				same(t, "far", "On", c.On(ev), api.OK)
			}
			x.Append(leaf)
			if n%23 == 0 {
				c, _ := carried(t, w, leaf, made(t, x, n, n+1))
				held, leaves = append(held, c), append(leaves, leaf)
			}
			for k, c := range held {
				checkOfTree(t, w, c, x, leaves[k], uint64(k)*23, n+1)
			}
		}
	}
}

// Promise 12.3: a peak that is merged with no other one, with one and with several: at sizes of which it is known how many
// go, for a leaf under each of the peaks.
func TestMergedWith(t *testing.T) {
	for _, c := range []struct {
		n, i  uint64
		nodes int // of the new proof
		other int // how many peaks are merged with the one over the leaf, the new leaf aside
	}{
		{1, 0, 1, 0}, {2, 0, 2, 0}, {2, 1, 2, 0}, {3, 0, 2, 1}, {3, 2, 2, 1}, {4, 3, 3, 0}, {5, 0, 3, 0}, {5, 4, 2, 0}, {6, 5, 3, 0}, {7, 0, 3, 2}, {7, 5, 3, 2}, {7, 6, 3, 2}, {11, 0, 4, 0}, {11, 9, 3, 1}, {11, 10, 3, 1}, {23, 3, 5, 0}, {23, 16, 4, 2}, {23, 21, 4, 2}, {23, 22, 4, 2}, {15, 14, 4, 3}, {31, 30, 5, 4}, {95, 0, 7, 0}, {95, 94, 6, 4},
	} {
		when := fmt.Sprintf("leaf %d at %d", c.i, c.n)
		leaves := hashes(3, int(c.n)+1)
		whole := tree(t, 32, leaves)
		x, m := carried(t, 32, leaves[c.i], made(t, whole, c.i, c.n))
		checkOn(t, when, x, m, events(32, leaves)[c.n])
		same(t, when, "the nodes' number", len(x.Proof().Nodes), c.nodes)
		gone := len(peakSpots(c.n)) - len(x.Peaks()) // the new peak stands for itself and those that went
		if merged := over(c.i, c.n) != over(c.i, c.n+1); merged {
			same(t, when, "how many are merged", gone, c.other)
		} else {
			same(t, when, "how many are merged", 0, c.other)
		}
		checkOfTree(t, 32, x, whole, leaves[c.i], c.i, c.n+1)
	}
}

// Promises 12.3 and 12.8: leaves whose hashes are equal, and zero: nodes are told from each other by where they stand.
func TestEqualLeaves(t *testing.T) {
	for _, leaf := range []api.Hash{{}, h(9)} {
		leaves := slices.Repeat([]api.Hash{leaf}, 34)
		whole := tree(t, 32, leaves)
		told := events(32, leaves)
		for n := uint64(1); n < 34; n++ {
			for i := range n {
				c, _ := carried(t, 32, leaf, made(t, whole, i, n))
				for size := n; size < 34; size++ {
					same(t, "equal leaves", "On", c.On(told[size]), api.OK)
					checkOfTree(t, 32, c, whole, leaf, i, size+1)
				}
			}
		}
	}
}

// Promises 12.1 and 12.3: what fits no root is carried all the same, by the words of 12.3.
func TestCarriedWithoutRoot(t *testing.T) {
	first := uint64(0)
	for n := uint64(1); n <= 40; n++ {
		for i := range n {
			first += 11
			w := widths()[first%9]
			c, m := carried(t, w, h(first+3000), anyProof(i, n, first))
			hold(t, "no root", c, m)
			for k := range uint64(12) {
				checkOn(t, "no root", c, m, m.event(h(first+k+5000)))
			}
		}
	}
}

// Promise 12.3: great sizes, up to the last append that there is.
func TestCarriedAtGreatSizes(t *testing.T) {
	for k, n := range great() {
		for _, i := range within(n) {
			when := fmt.Sprintf("leaf %d of %d", i, n)
			c, m := carried(t, 32, h(i), anyProof(i, n, uint64(100*k)))
			hold(t, when, c, m)
			for range 3 {
				checkOn(t, when, c, m, m.event(h(i+1)))
			}
		}
	}
}

// Promise 12.3: a full forest hears of nothing more; the size is told ahead of that, the peaks behind it.
func TestCarryFull(t *testing.T) {
	for _, i := range []uint64{0, 1, most / 2, most - 2} {
		c, m := carried(t, 32, h(5), anyProof(i, most-1, 77))
		checkOn(t, "the last append", c, m, m.event(h(6)))
		same(t, "full", "Size", c.Size(), most)
		for _, ev := range []api.Event{m.event(h(7)), {Size: most}, {Size: most, Peaks: hashes(0, 1)}, {Size: most, Peaks: hashes(0, 62)}} {
			refuse(t, "full", c, m, ev, api.ErrFull)
		}
		for _, n := range append(beyond(), 0, 1, most-1) {
			refuse(t, "full", c, m, api.Event{Size: n, Peaks: c.Peaks()}, api.ErrLate)
			refuse(t, "full", c, m, api.Event{Size: n}, api.ErrLate)
		}
	}
	c, m := carried(t, 32, h(5), anyProof(most-1, most, 77))
	refuse(t, "full from the beginning", c, m, m.event(h(7)), api.ErrFull)
}

// Promise 12.1: what Encode says of a proof, beside every number of nodes; the first of its errors.
func TestNewRefused(t *testing.T) {
	sizes := append([]uint64{0, 1, 2, 3, 7, 8, 21, most - 1, most}, beyond()...)
	for _, n := range sizes {
		for _, i := range append([]uint64{0, 1, n / 2, n - 1, n, n + 1}, beyond()...) {
			for _, k := range []int{0, 1, 2, 3, 61, 62, 63, 64, 65, 130} {
				want := api.OK
				switch {
				case n > most:
					want = api.ErrSize
				case i >= n:
					want = api.ErrIndex
				case k != len(proofSpots(i, n)):
					want = api.ErrCount
				}
				p := api.Proof{Size: n, Index: i, Nodes: hashes(0, k)}
				if _, e := proof.Encode(p); e != want {
					t.Fatalf("Encode{%d, %d, %d nodes} is %v, want %v", n, i, k, e, want)
				}
				c, e := carry.New(32, h(1), p)
				if e != want || (c == nil) != (want != api.OK) {
					t.Fatalf("New{%d, %d, %d nodes} is %v, %v, want %v", n, i, k, c, e, want)
				}
			}
		}
	}
}

// Promise 12.1: one node too few and one too many, at every small size.
func TestNewCounts(t *testing.T) {
	for n := uint64(1); n <= 70; n++ {
		for i := range n {
			right := len(proofSpots(i, n))
			for _, k := range []int{right - 1, right + 1} {
				if k < 0 {
					continue
				}
				if c, e := carry.New(32, h(1), api.Proof{Size: n, Index: i, Nodes: hashes(0, k)}); c != nil || e != api.ErrCount {
					t.Fatalf("New{%d, %d, %d nodes} is %v, %v", n, i, k, c, e)
				}
			}
		}
	}
}

// Promise 12.3: events of earlier and of later sizes, with right peaks, wrong ones and those of that size.
func TestCarryLate(t *testing.T) {
	leaves := hashes(7, 40)
	whole := tree(t, 32, leaves)
	told := events(32, leaves)
	for n := uint64(1); n < 39; n++ {
		c, m := carried(t, 32, leaves[n/2], made(t, whole, n/2, n))
		for size, ev := range told {
			if uint64(size) != n {
				refuse(t, "late", c, m, ev, api.ErrLate)
				refuse(t, "late", c, m, api.Event{Size: uint64(size), Leaf: ev.Leaf, Peaks: c.Peaks()}, api.ErrLate)
				refuse(t, "late", c, m, api.Event{Size: uint64(size)}, api.ErrLate)
			}
		}
		for _, size := range append(beyond(), n+1<<32, n^1<<63, most-1, most) {
			refuse(t, "late", c, m, api.Event{Size: size, Peaks: c.Peaks()}, api.ErrLate)
		}
		checkOn(t, "behind late ones", c, m, told[n])
	}
}

// wrongPeaks are lists that are not these peaks: one too few at either end, one too many, one turned, two swapped.
func wrongPeaks(peaks []api.Hash) [][]api.Hash {
	l := [][]api.Hash{append(slices.Clone(peaks), h(1)), append([]api.Hash{h(1)}, peaks...), append(slices.Clone(peaks), peaks...), slices.Repeat(peaks, 40)}
	if len(peaks) > 0 {
		l = append(l, peaks[1:], peaks[:len(peaks)-1], nil, make([]api.Hash, len(peaks)), append(slices.Clone(peaks), peaks[0]))
	}
	for k := range peaks {
		for bit := 0; bit < 256; bit += 17 {
			bad := slices.Clone(peaks)
			bad[k] = turned(bad[k], bit)
			l = append(l, bad)
		}
		for j := range k {
			bad := slices.Clone(peaks)
			bad[k], bad[j] = bad[j], bad[k]
			l = append(l, bad)
		}
	}
	return slices.DeleteFunc(l, func(x []api.Hash) bool { return slices.Equal(x, peaks) })
}

// Promise 12.3: peaks that are not its own.
func TestCarryPeaks(t *testing.T) {
	leaves := hashes(7, 60)
	whole := tree(t, 32, leaves)
	told := events(32, leaves)
	for n := uint64(1); n < 60; n++ {
		for _, i := range []uint64{0, n / 2, n - 1} {
			c, m := carried(t, 32, leaves[i], made(t, whole, i, n))
			for _, peaks := range wrongPeaks(told[n].Peaks) {
				refuse(t, "other peaks", c, m, api.Event{Size: n, Leaf: leaves[n], Peaks: peaks}, api.ErrPeaks)
			}
			checkOn(t, "behind other peaks", c, m, told[n])
		}
	}
}

// Promise 12.3: each bit of a peak is looked at, those behind the width too.
func TestCarryBitsOfPeaks(t *testing.T) {
	for _, w := range []int{1, 32} {
		c, m := carried(t, w, h(1), anyProof(4, 11, 50))
		for k := range 3 {
			for bit := range 256 {
				ev := m.event(h(2))
				ev.Peaks[k] = turned(ev.Peaks[k], bit)
				refuse(t, "a bit", c, m, ev, api.ErrPeaks)
			}
		}
	}
}

// Promise 12.3: where the peak over the leaf alone is not that of the forest, its events are refused; with a small width
// just where the two are not the same.
func TestCarryOfAnotherLeaf(t *testing.T) {
	for _, w := range []int{1, 2, 32} {
		leaves := hashes(7, 22)
		whole := tree(t, w, leaves)
		told := events(w, leaves)
		met := map[api.Errno]int{}
		for n := uint64(1); n < 22; n++ {
			for k := range uint64(40) {
				i := k % n
				c, m := carried(t, w, h(1000+31*k+n), made(t, whole, i, n))
				want := refused(told[n], n, m.peaks())
				met[want]++
				checkOn(t, "another leaf", c, m, told[n])
			}
		}
		if met[api.ErrPeaks] == 0 || w == 1 && met[api.OK] == 0 {
			t.Errorf("width %d: not both kinds were met: %v", w, met)
		}
	}
}

// Promise 12.2: Proof's Size is Size, its Index that of the leaf; Peaks and Root follow from them, ahead of all events.
func TestCarryAsItBegins(t *testing.T) {
	for _, w := range widths() {
		for n := uint64(1); n <= 34; n++ {
			for i := range n {
				c, m := carried(t, w, h(n+100*i), anyProof(i, n, 3*n))
				hold(t, "as it begins", c, m)
				peaks, e := verify.Climb(w, c.Leaf(), c.Proof())
				same(t, "as it begins", "Climb", e, api.OK)
				sameList(t, "as it begins", "Peaks", c.Peaks(), peaks)
			}
		}
	}
}

// Promise 12.3: a carry is one of its width alone; widths outside count as the nearest.
func TestCarryWidths(t *testing.T) {
	for _, w := range widths() {
		inner := min(max(w, 1), 32)
		leaves := hashes(4, 20)
		whole := tree(t, inner, leaves)
		c, _ := carried(t, w, leaves[2], made(t, whole, 2, 3))
		for _, ev := range events(inner, leaves)[3:] {
			same(t, "widths", "On", c.On(ev), api.OK)
		}
		checkOfTree(t, inner, c, whole, leaves[2], 2, 20)
		other := tree(t, 17, leaves)
		d, _ := carried(t, w, leaves[1], made(t, other, 1, 3)) // its peak is hashed, by either width
		same(t, "another width", "On", d.On(events(17, leaves)[3]), api.ErrPeaks)
	}
}
