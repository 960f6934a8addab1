package part_test

import (
	"slices"
	"testing"

	"massif/api"
	"massif/part"
)

// Promise 21.1: the chapter's examples.
func TestFirstExamples(t *testing.T) {
	a, b, c, d, x := h(1), h(2), h(3), h(4), h(5)
	abc := grown(t, 32, []api.Hash{a, b, c})
	axc := grown(t, 32, []api.Hash{a, x, c})
	abd := grown(t, 32, []api.Hash{a, b, d})
	for _, z := range []struct {
		a, b  tells
		n     uint64
		want  api.Parting
		e     api.Errno
		asked []uint64
	}{
		{abc.Node, axc.Node, 3, api.Parting{Index: 1, A: b, B: x, Asked: 3}, api.OK, []uint64{2, 0, 1}},
		{abc.Node, abd.Node, 3, api.Parting{Index: 2, A: c, B: d, Asked: 2}, api.OK, []uint64{2, 3}},
		{abc.Node, abc.Node, 3, api.Parting{}, api.ErrSame, []uint64{2, 3}},
		{abc.Node, abc.Node, most + 1, api.Parting{}, api.ErrSize, nil},
	} {
		same(t, z.n, ask(z.a, z.b, z.n), outcome{z.want, z.e, both(z.asked...)})
	}
}

// checkTrees holds First of two trees of any width that parts none of their hashes against the model, and against the
// first leaf that is unlike.
func checkTrees(t *testing.T, w int, x, y []api.Hash) {
	t.Helper()
	n := uint64(len(x))
	a, b := grown(t, w, x), grown(t, w, y)
	got := check(t, a.Node, b.Node, n)
	if z, e := part.First(a, b, n); z != got.Parting || e != got.e {
		t.Fatalf("First of two trees of %d is %v, %v, want %v, %v", n, z, e, got.Parting, got.e)
	}
	i := 0
	for i < len(x) && x[i] == y[i] {
		i++
	}
	switch {
	case i == len(x) && got.e != api.ErrSame:
		t.Fatalf("First of trees with the same %d leaves is %v", n, got.e)
	case i < len(x) && (got.e != api.OK || got.Index != uint64(i) || got.A != x[i] || got.B != y[i]):
		t.Fatalf("First of %d leaves that part at %d is %v, %v", n, i, got.Parting, got.e)
	}
}

// wide are widths, of which some count as 32, at which no two texts that are met here have one hash.
func wide() []int { return []int{12, 31, 32, 33, 1 << 40} }

// Promises 21.1 and 21.3: two trees of every size up to some dozens that part at one leaf, each in its turn.
func TestTreesThatPartAtOneLeaf(t *testing.T) {
	for n := range 49 {
		x := hashes(100, n)
		for i := range n {
			y := with(x, i, turned(x[i], uint64(i*17)))
			checkTrees(t, 32, x, y)
			a, b := grown(t, 32, x), grown(t, 32, y)
			got, e := part.First(a, b, uint64(n))
			if want := (api.Parting{Index: uint64(i), A: x[i], B: y[i], Asked: askedOnWay(uint64(i), uint64(n))}); got != want || e != api.OK {
				t.Fatalf("First of %d leaves that part at %d is %v, %v, want %v", n, i, got, e, want)
			}
		}
	}
}

// Promises 21.1 and 21.3: two trees that part at two leaves, or at all from one on, at several widths.
func TestTreesThatPartAtTwoLeaves(t *testing.T) {
	for _, w := range wide() {
		for n := range 20 {
			x := hashes(7, n)
			for j := range n {
				for i := range j {
					checkTrees(t, w, x, with(with(x, i, h(999)), j, h(1000)))
				}
				checkTrees(t, w, x, slices.Concat(x[:j], hashes(5000, n-j)))
				checkTrees(t, w, slices.Concat(x[:j], hashes(5000, n-j)), x)
			}
		}
	}
}

// Promises 21.1 and 21.3: two trees that part at each set of their leaves.
func TestTreesThatPartAtEachSet(t *testing.T) {
	for n := range 9 {
		x := hashes(70, n)
		for set := range 1 << n {
			y := slices.Clone(x)
			for i := range n {
				if set>>i&1 == 1 {
					y[i] = turned(y[i], uint64(set+i))
				}
			}
			checkTrees(t, 32, x, y)
		}
	}
}

// Promises 21.1 and 21.3: two trees that part nowhere: all peaks are asked for, from the left, and nothing else.
func TestTreesThatPartNowhere(t *testing.T) {
	for _, w := range append(wide(), -7, 0, 1, 2, 5) {
		for n := range 70 {
			x := hashes(3, n)
			a, b := grown(t, w, x), grown(t, w, x)
			var peaks []uint64
			for _, s := range peakSpots(uint64(n)) {
				peaks = append(peaks, place(s))
			}
			want := outcome{e: api.ErrSame, asked: both(peaks...)}
			same(t, uint64(n), ask(a.Node, b.Node, uint64(n)), want)
			same(t, uint64(n), ask(a.Node, a.Node, uint64(n)), want)
		}
	}
}

// Promise 21.1: what stands in the trees behind n leaves is not looked at; what a tree lacks it refuses.
func TestOtherSizesThanTheTrees(t *testing.T) {
	x := hashes(40, 30)
	y := with(x, 11, h(999))
	for n := range uint64(34) {
		for size := range 31 {
			a, b := grown(t, 32, x), grown(t, 32, y[:size])
			got := check(t, a.Node, b.Node, n)
			check(t, b.Node, a.Node, n)
			if n <= uint64(size) && n > 11 && (got.e != api.OK || got.Index != 11) {
				t.Fatalf("First of %d of 30 and %d leaves is %v, %v", n, size, got.Parting, got.e)
			}
			if n <= uint64(size) && n <= 11 && got.e != api.ErrSame {
				t.Fatalf("First of %d of 30 and %d leaves is %v, %v", n, size, got.Parting, got.e)
			}
		}
	}
}

// Promise 21.1: trees of unlike widths have unlike nodes over the same leaves: no leaf parts them.
func TestTreesOfUnlikeWidths(t *testing.T) {
	for n := range 34 {
		x := hashes(90, n)
		a, b := grown(t, 32, x), grown(t, 7, x)
		want := api.ErrNode
		if n < 2 {
			want = api.ErrSame
		}
		if got := check(t, a.Node, b.Node, uint64(n)); got.e != want {
			t.Fatalf("First of %d same leaves at unlike widths is %v, %v, want %v", n, got.Parting, got.e, want)
		}
		for i := range n {
			c := grown(t, 7, with(x, i, h(999)))
			check(t, a.Node, c.Node, uint64(n))
		}
	}
}
