package batch_test

import (
	"fmt"
	"testing"

	"massif/api"
	"massif/keep"
)

// Promises 15.2, 15.3, 15.5, 15.6: each small number of leaves at each small size, without a stop and with each stop that
// there is for the number of parts, and some more.
func TestAppendEach(t *testing.T) {
	for n := range 20 {
		for k := range 20 {
			for stop := -2; stop <= parts(uint64(n), k)+2; stop++ {
				w, log, workers := 1+(n+k)%32, k%4, 1+(n+stop+2)%6
				got, twin := of(t, w, log, n), of(t, w, log, n)
				said := check(t, "each", over(t, got, workers), got, twin, workers, call{leaves: leaves(n, k), stop: stop})
				whole := stop < 0 || stop >= parts(uint64(n), k)
				same(t, fmt.Sprint(n, k, stop), "whether it is whole", said.outcome == api.Whole, whole)
				same(t, fmt.Sprint(n, k, stop), "whether it is none", said.outcome == api.None, !whole)
				if whole {
					sameKeep(t, fmt.Sprint(n, k, stop), got, of(t, w, log, n+k))
				} else {
					sameKeep(t, fmt.Sprint(n, k, stop), got, of(t, w, log, n))
				}
				goOn(t, fmt.Sprint(n, k, stop), got, twin, n+k)
			}
		}
	}
}

// Promise 15.2: the parts, where it is known how many they are: the stop tells.
func TestAppendParts(t *testing.T) {
	for _, c := range []struct {
		n     uint64
		k     int
		parts int
	}{
		{0, 1, 1}, {0, 2, 1}, {0, 3, 2}, {0, 4, 1}, {0, 7, 3}, {0, 8, 1}, {3, 5, 2}, {5, 3, 2}, {5, 1, 1}, {1, 14, 6}, {1, 15, 4}, {1, 16, 5}, {2, 2, 1}, {2, 4, 2}, {4, 4, 1}, {6, 2, 1}, {6, 3, 2},
		{1, 65535, 16}, {0, 65536, 1}, {32769, 65534, 30}, {1<<40 + 1, 65536, 17}, {1 << 15, 65536, 2},
	} {
		when := fmt.Sprintf("%d leaves at %d", c.k, c.n)
		same(t, when, "the number of parts", parts(c.n, c.k), c.parts)
		k := great(t, 3, c.n)
		f := over(t, k, 4)
		for _, stop := range []int{0, c.parts - 1} {
			alike(t, when, call{leaves: leaves(0, c.k), stop: stop}.ask(f), said{outcome: api.None})
			same(t, when, "Size", k.Size(), c.n)
		}
		outcome, events, e := f.Append(leaves(0, c.k), c.parts)
		same(t, when, "the outcome", outcome, api.Whole)
		same(t, when, "the error", e, api.OK)
		same(t, when, "the number of events", len(events), c.k)
		same(t, when, "Size", k.Size(), c.n+uint64(c.k))
	}
}

// Promise 15.3: stops that are far away: below 0 nothing is cancelled, above the number of parts neither.
func TestAppendStops(t *testing.T) {
	for _, stop := range []int{least, least + 1, -1 << 32, -2, -1, 0, 1, 2, 3, 4, 1 << 16, 1 << 32, far - 1, far} {
		for _, k := range []int{0, 1, 2, 11} {
			got, twin := of(t, 32, 1, 5), of(t, 32, 1, 5)
			check(t, "stops", over(t, got, 2), got, twin, 2, call{leaves: leaves(5, k), stop: stop})
		}
	}
}

// Promise 15.5: a batch of no leaf, nil or empty, is Whole, whatever stop, cancel, room and picks are, and changes nothing.
func TestNoLeaf(t *testing.T) {
	full := great(t, 32, most)
	for _, k := range []*keep.Keep{of(t, 32, 1, 0), of(t, 32, 1, 1), of(t, 32, 1, 6), great(t, 32, most-1), full} {
		twin := again(t, k)
		f := over(t, k, 2)
		for _, none := range [][]api.Hash{nil, {}, behind(nil, leaf(1), leaf(2))} {
			for _, at := range []int{least, -1, 0, 1, 2, 3, 4, 5, far} {
				for _, c := range []call{{leaves: none, stop: at}, {leaves: none, play: true, cancel: at}, {leaves: none, play: true, cancel: at, room: 1 << 16, picks: []int{3, 2, 1, 0, -1, 8}}} {
					got := check(t, "no leaf", f, k, twin, 2, c)
					alike(t, "no leaf", got, said{outcome: api.Whole})
				}
			}
		}
	}
}

// Promise 15.2: of each width, also those that count as another one.
func TestAppendWidths(t *testing.T) {
	for _, w := range []int{-7, 0, 1, 2, 3, 16, 31, 32, 33, 1 << 40} {
		for n := range 6 {
			got, twin := of(t, w, 1, n), of(t, w, 1, n)
			f := over(t, got, 3)
			check(t, fmt.Sprint("width ", w), f, got, twin, 3, call{leaves: leaves(n, 9), stop: -1})
			check(t, fmt.Sprint("width ", w), f, got, twin, 3, call{leaves: leaves(n+9, 9), play: true, cancel: -1})
		}
	}
}

// Promise 15.5: a keep of which nodes were pruned or pinned ahead of the batch: what lived does so still, what did not
// does not, and of the new nodes all live.
func TestAppendToPruned(t *testing.T) {
	for n := 1; n < 24; n++ {
		for pin := range n {
			got, twin := of(t, 32, n%3, n), of(t, 32, n%3, n)
			for _, k := range []*keep.Keep{got, twin} {
				k.Pin(uint64(pin))
				k.Pin(uint64(pin))
				k.Pin(uint64(n / 2))
				k.Prune()
			}
			f := over(t, got, 2)
			when := fmt.Sprintf("%d leaves, %d pinned", n, pin)
			check(t, when, f, got, twin, 2, call{leaves: leaves(n, 3), stop: 0})
			check(t, when, f, got, twin, 2, call{leaves: leaves(n, 1+pin%9), stop: -1})
			check(t, when, f, got, twin, 2, call{leaves: leaves(n, 5), play: true, cancel: 2, picks: []int{0, 5, 4, 3, 2, 1}})
			check(t, when, f, got, twin, 2, call{leaves: leaves(n, 1+n%7), play: true, cancel: -1, room: 1})
			if _, e := got.Prove(uint64(pin)); e != api.OK {
				t.Fatalf("%s: Prove is %v", when, e)
			}
			goOn(t, when, got, twin, n+pin)
		}
	}
}

// Promises 15.1 and 15.5: a keep whose own calls are used between batches that are drawn.
func TestBatchesAndCallsDrawn(t *testing.T) {
	for seed := range dice(60) {
		d := seed
		w, log, workers := 1+d.roll(32), d.roll(5), 1+d.roll(8)
		got := of(t, w, log, d.roll(9))
		twin := again(t, got)
		f := over(t, got, workers)
		for step := range 25 {
			when := fmt.Sprintf("run %d, step %d", seed, step)
			check(t, when, f, got, twin, workers, d.call(100*step, 12))
			for range d.roll(4) {
				move(t, when, got, twin, &d)
			}
		}
		sameKeep(t, fmt.Sprint("run ", seed), got, twin)
	}
}

// Promise 15.2: batch behind batch, of any lengths, are like one batch, and like the leaves one by one.
func TestBatchBehindBatch(t *testing.T) {
	for seed := range dice(40) {
		d := seed
		got := of(t, 32, 1, 0)
		f := over(t, got, 1+d.roll(5))
		var events []api.Event
		for len(events) < 60 {
			c := d.call(len(events), min(17, 60-len(events)))
			events = append(events, c.ask(f).events...)
		}
		twin := of(t, 32, 1, 0)
		sameEvents(t, "in pieces", events, one(twin, leaves(0, 60)))
		sameKeep(t, "in pieces", got, twin)
	}
}
