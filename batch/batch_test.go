package batch_test

import (
	"testing"

	"massif/api"
	"massif/batch"
	"massif/hash"
	"massif/keep"
)

// The examples of chapter 15.
func TestExamples(t *testing.T) {
	l := leaves(0, 8)
	a, b, c, d, e, x, y, z := l[0], l[1], l[2], l[3], l[4], l[5], l[6], l[7]
	n := func(l, r api.Hash) api.Hash { return hash.Node(32, l, r) }
	k := of(t, 32, 2, 3)
	f := over(t, k, 2)

	outcome, events, errno := f.Append([]api.Hash{d, e}, -1)
	alike(t, "Append([d e], -1)", said{outcome, events, errno}, said{outcome: api.Whole, events: []api.Event{
		{Size: 3, Leaf: d, Peaks: []api.Hash{n(a, b), c}}, {Size: 4, Leaf: e, Peaks: []api.Hash{n(n(a, b), n(c, d))}},
	}})
	outcome, events, errno = f.Append([]api.Hash{x, y, z}, 1)
	alike(t, "Append([x y z], 1)", said{outcome, events, errno}, said{outcome: api.None})
	sameKeep(t, "Append([x y z], 1)", k, of(t, 32, 2, 5))
	outcome, events, errno = f.Append(nil, 0)
	alike(t, "Append(none, 0)", said{outcome, events, errno}, said{outcome: api.Whole})
	outcome, events, errno = f.Play([]api.Hash{x}, 0, nil, 0)
	alike(t, "Play([x], 0, none, 0)", said{outcome, events, errno}, said{outcome: api.Whole, events: []api.Event{
		{Size: 5, Leaf: x, Peaks: []api.Hash{n(n(a, b), n(c, d)), e}},
	}})
	sameKeep(t, "Play([x], 0, none, 0)", k, of(t, 32, 2, 6))
	outcome, events, errno = f.Play([]api.Hash{x}, 0, []int{2, 2}, 0)
	alike(t, "Play([x], 0, [2 2], 0)", said{outcome, events, errno}, said{outcome: api.None})
	sameKeep(t, "Play([x], 0, [2 2], 0)", k, of(t, 32, 2, 6))
	same(t, "the first time", "Close", f.Close(), api.OK)
	same(t, "the second time", "Close", f.Close(), api.ErrClosed)
	outcome, events, errno = f.Append([]api.Hash{x}, -1)
	alike(t, "Append([x], -1), closed", said{outcome, events, errno}, said{e: api.ErrClosed})
	sameKeep(t, "closed", k, of(t, 32, 2, 6))
}

// Promise 15.1: New refuses no keep, and numbers of workers that are none; beside the error there is no forest.
func TestNew(t *testing.T) {
	k := of(t, 32, 2, 3)
	for _, c := range []struct {
		k       *keep.Keep
		workers int
		want    api.Errno
	}{
		{k, 1, api.OK}, {k, 2, api.OK}, {k, 63, api.OK}, {k, 64, api.OK},
		{k, 0, api.ErrArg}, {k, -1, api.ErrArg}, {k, 65, api.ErrArg}, {k, least, api.ErrArg}, {k, far, api.ErrArg}, {k, 1<<32 + 1, api.ErrArg}, {k, -1 << 32, api.ErrArg},
		{nil, 1, api.ErrArg}, {nil, 64, api.ErrArg}, {nil, 0, api.ErrArg}, {nil, 65, api.ErrArg},
	} {
		f, e := batch.New(c.k, c.workers)
		if e != c.want || (f == nil) != (e != api.OK) {
			t.Fatalf("New(%v, %d) is %v, %v, want %v", c.k, c.workers, f, e, c.want)
		}
		if e != api.OK {
			continue
		}
		got, e := f.Keep()
		same(t, "New", "Keep", got, c.k)
		same(t, "New", "the error of Keep", e, api.OK)
	}
	sameKeep(t, "behind New", k, of(t, 32, 2, 3))
}

// Promise 15.1: each number of workers that there may be does a batch, with the same answer.
func TestEachNumberOfWorkers(t *testing.T) {
	for workers := 1; workers <= api.MaxWorkers; workers++ {
		for _, c := range []call{
			{leaves: leaves(5, 30), stop: -1}, {leaves: leaves(5, 30), stop: 3}, {leaves: leaves(5, 30), play: true, cancel: -1, picks: []int{7, 5, 3, 90, 2}},
			{leaves: leaves(5, 30), play: true, cancel: 3, room: 2, picks: []int{1, 2, 3, 4, 5, 6, 7, 8}},
		} {
			k := of(t, 32, 2, 5)
			check(t, "workers", over(t, k, workers), k, of(t, 32, 2, 5), workers, c)
		}
	}
}

// Promise 15.1: what is done by a forest is done to the keep, and what is done to the keep is done to the forest.
func TestOverTheKeepItself(t *testing.T) {
	k, twin := of(t, 32, 2, 3), of(t, 32, 2, 3)
	f := over(t, k, 3)
	for turn := range 20 {
		l := leaves(100*turn, 1+turn%5)
		check(t, "by the forest", f, k, twin, 3, call{leaves: l, stop: -1})
		x, e := f.Keep()
		same(t, "the keep itself", "Keep", x, k)
		same(t, "the keep itself", "the error of Keep", e, api.OK)
		same(t, "by the keep", "Append", x.Append(leaf(turn)), twin.Append(leaf(turn)))
		sameKeep(t, "by the keep", k, twin)
	}
}

// Promise 15.1: behind Close all calls answer ErrClosed, whatever else is wrong; the keep goes on.
func TestClosed(t *testing.T) {
	k, twin := of(t, 32, 2, 5), of(t, 32, 2, 5)
	f := over(t, k, 2)
	same(t, "open", "Close", f.Close(), api.OK)
	for turn := range 3 {
		x, e := f.Keep()
		if x != nil || e != api.ErrClosed {
			t.Fatalf("Keep, closed, is %v, %v", x, e)
		}
		same(t, "closed", "Close", f.Close(), api.ErrClosed)
		for _, c := range []call{
			{}, {stop: -1}, {leaves: leaves(0, 1), stop: -1}, {leaves: leaves(0, 3), stop: 1}, {leaves: make([]api.Hash, 1<<16+1), stop: -1},
			{play: true}, {play: true, room: -1}, {play: true, room: 1<<16 + 1, leaves: make([]api.Hash, 1<<16+1)}, {play: true, leaves: leaves(0, 1), cancel: -1, picks: []int{4}},
		} {
			alike(t, c.String()+", closed", c.ask(f), said{e: api.ErrClosed})
		}
		sameKeep(t, "closed", k, twin)
		goOn(t, "closed", k, twin, turn)
	}
}

// Promise 15.1: of two forests over one keep each does its batches to it; one that is closed changes nothing of the other.
func TestTwoForestsOverOneKeep(t *testing.T) {
	k, twin := of(t, 32, 2, 3), of(t, 32, 2, 3)
	f, g := over(t, k, 1), over(t, k, 5)
	var d dice
	for turn := range 40 {
		check(t, "the first", f, k, twin, 1, d.call(100*turn, 9))
		check(t, "the second", g, k, twin, 5, d.call(100*turn+50, 9))
	}
	same(t, "the first", "Close", f.Close(), api.OK)
	x, e := g.Keep()
	same(t, "the second", "Keep", x, k)
	same(t, "the second", "the error of Keep", e, api.OK)
	check(t, "the second", g, k, twin, 5, call{leaves: leaves(7, 12), stop: -1})
	same(t, "the first", "Close", f.Close(), api.ErrClosed)
	alike(t, "the first", call{leaves: leaves(7, 1), stop: -1}.ask(f), said{e: api.ErrClosed})
	third := over(t, k, 2)
	check(t, "a third", third, k, twin, 2, call{leaves: leaves(9, 12), stop: -1})
	same(t, "the second", "Close", g.Close(), api.OK)
	check(t, "a third", third, k, twin, 2, call{leaves: leaves(11, 12), play: true, cancel: -1})
}
