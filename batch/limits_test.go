package batch_test

import (
	"fmt"
	"testing"

	"massif/api"
	"massif/batch"
	"massif/keep"
)

// Promises 15.3 and 15.4: a batch of MaxBatch leaves is done, one of more leaves is refused.
func TestGreatestBatch(t *testing.T) {
	for _, n := range []int{0, 5} {
		twin := of(t, 2, 10, n)
		want := one(twin, leaves(n, 1<<16))
		for _, c := range []call{{stop: -1}, {stop: 17}, {play: true, cancel: -1, room: 1 << 16, picks: []int{3, 1, 2}}} {
			k := of(t, 2, 10, n)
			f := over(t, k, 8)
			c.leaves = leaves(n, 1<<16+1)
			alike(t, c.String(), c.ask(f), said{e: api.ErrLong})
			sameKeep(t, c.String(), k, of(t, 2, 10, n))
			c.leaves = c.leaves[:1<<16]
			alike(t, c.String(), c.ask(f), said{outcome: api.Whole, events: want})
			sameKeep(t, c.String(), k, twin)
		}
		k := of(t, 2, 10, n)
		c := call{leaves: leaves(n, 1<<16), stop: 0}
		alike(t, c.String(), c.ask(over(t, k, 8)), said{outcome: api.None})
		sameKeep(t, c.String(), k, of(t, 2, 10, n))
	}
}

// Promises 15.3 and 15.4: leaves and Size together up to MaxLeaves are done, above that they are refused, by Append and by
// Play.
func TestLastLeaves(t *testing.T) {
	for room := range 10 {
		for k := range 13 {
			n := most - uint64(room)
			for _, c := range []call{{stop: -1}, {stop: 2}, {play: true, cancel: -1}, {play: true, cancel: 3, picks: []int{0, 0, 0, 6, 5, 4, 3, 2, 1}}} {
				c.leaves = leaves(0, k)
				got, twin := great(t, 32, n), great(t, 32, n)
				said := check(t, "at the end", over(t, got, 3), got, twin, 3, c)
				same(t, fmt.Sprintf("%v at %d", c, n), "whether it is refused", said.e == api.ErrSize, k > room)
			}
		}
	}
	for _, short := range []uint64{1<<16 - 1, 1 << 16} {
		k := great(t, 1, most-short)
		f := over(t, k, 3)
		c := call{leaves: leaves(0, 1<<16), stop: -1}
		got := c.ask(f)
		if short < 1<<16 {
			alike(t, c.String(), got, said{e: api.ErrSize})
			same(t, c.String(), "Size", k.Size(), most-short)
			continue
		}
		same(t, c.String(), "the outcome", got.outcome, api.Whole)
		sameEvents(t, c.String(), got.events, one(great(t, 1, most-short), c.leaves))
		same(t, c.String(), "Size", k.Size(), most-short+1<<16)
	}
}

// Promise 15.5: at sizes of which no memory has all nodes.
func TestGreatSizes(t *testing.T) {
	sizes := []uint64{300, 0x0123456789abcdef, 0x2aaaaaaaaaaaaaaa, 0x1555555555555555, 0x3ffffffffffffff5}
	for b := 7; b < 62; b += 9 {
		sizes = append(sizes, 1<<b-1, 1<<b, 1<<b+1, most-1<<b)
	}
	for turn, n := range sizes {
		for _, c := range []call{
			{leaves: leaves(0, 1), stop: -1}, {leaves: leaves(0, 10), stop: -1}, {leaves: leaves(0, 10), stop: 1},
			{leaves: leaves(0, 9), play: true, cancel: -1, picks: []int{5, 4, 3}}, {leaves: leaves(0, 9), play: true, cancel: 0, picks: []int{5, 4, 3}},
		} {
			k, twin := great(t, 1+turn%32, n), great(t, 1+turn%32, n)
			check(t, "great sizes", over(t, k, 2), k, twin, 2, c)
		}
	}
}

// Rule R2: where several errors apply, the first is the answer: each pair of them, and all at once.
func TestFirstError(t *testing.T) {
	long := make([]api.Hash, 1<<16+1)
	for _, c := range []struct {
		closed bool
		n      uint64
		leaves []api.Hash
		room   int
		want   api.Errno
	}{
		{true, 5, long, 0, api.ErrClosed}, {true, most, long[:1], 0, api.ErrClosed}, {true, 5, long[:1], -1, api.ErrClosed}, {true, most, long, -1, api.ErrClosed},
		{false, most, long, 0, api.ErrLong}, {false, most - 1, long, 0, api.ErrLong}, {false, 5, long, -1, api.ErrLong}, {false, most, long, 1<<16 + 1, api.ErrLong},
		{false, most, long[:1], -1, api.ErrSize}, {false, most - 1, long[:2], 1<<16 + 1, api.ErrSize}, {false, most, long[:1<<16], -1, api.ErrSize}, {false, most, long[:1], 0, api.ErrSize},
		{false, 5, long[:1], -1, api.ErrArg}, {false, 5, nil, 1<<16 + 1, api.ErrArg}, {false, most, nil, -1, api.ErrArg}, {false, 5, long[:1<<16], -1, api.ErrArg},
	} {
		k, twin := great(t, 32, c.n), great(t, 32, c.n)
		f := over(t, k, 2)
		if c.closed {
			f.Close()
		}
		when := fmt.Sprintf("closed %v, %d leaves at %d, room %d", c.closed, len(c.leaves), c.n, c.room)
		for _, cancel := range []int{-1, 0} {
			alike(t, when, call{leaves: c.leaves, play: true, room: c.room, cancel: cancel}.ask(f), said{e: c.want})
			if c.want != api.ErrArg {
				alike(t, when, call{leaves: c.leaves, stop: cancel}.ask(f), said{e: c.want})
			}
		}
		sameKeep(t, when, k, twin)
	}
}

// Promise 15.4: rooms: all from 0 to MaxBatch are taken, no others, also where there is no leaf.
func TestRooms(t *testing.T) {
	for _, room := range []int{least, -1 << 32, -2, -1, 0, 1, 2, 7, 1<<16 - 1, 1 << 16, 1<<16 + 1, 1 << 32, 1<<32 + 1, far} {
		for _, k := range []int{0, 1, 9} {
			for _, cancel := range []int{-1, 0, 4} {
				got, twin := of(t, 32, 2, 5), of(t, 32, 2, 5)
				said := check(t, "rooms", over(t, got, 2), got, twin, 2, call{leaves: leaves(5, k), play: true, room: room, cancel: cancel, picks: []int{6, 3, 9}})
				same(t, fmt.Sprint("room ", room), "whether it is refused", said.e == api.ErrArg, room < 0 || room > 65536)
			}
		}
	}
}

// Rule R2: what is refused, and what is None, changes nothing, now or later.
func TestRefusedChangesNothing(t *testing.T) {
	long := make([]api.Hash, 1<<16+1)
	refused := []call{
		{leaves: long, stop: -1}, {leaves: long, play: true, cancel: -1}, {leaves: leaves(9, 3), play: true, room: -1, cancel: -1}, {play: true, room: 1<<16 + 1},
		{leaves: leaves(9, 3), stop: 0}, {leaves: leaves(9, 1), play: true, picks: []int{2, 2}},
	}
	var d dice
	k, twin := of(t, 32, 1, 3), of(t, 32, 1, 3)
	f := over(t, k, 1)
	for turn := range 30 {
		for _, c := range refused {
			if got := c.ask(f); got.e == api.OK && got.outcome != api.None {
				t.Fatalf("%v is %v", c, got)
			}
			sameKeep(t, "refused", k, twin)
		}
		check(t, "behind those that were refused", f, k, twin, 1, d.call(50*turn, 7))
		move(t, "behind those that were refused", k, twin, &d)
	}
}

// Rule R1: a keep that nobody made, and a forest that nobody made: all calls end.
func TestZeroValues(t *testing.T) {
	k, twin := &keep.Keep{}, &keep.Keep{}
	f := over(t, k, 2)
	check(t, "a zero keep", f, k, twin, 2, call{leaves: leaves(0, 7), stop: -1})
	check(t, "a zero keep", f, k, twin, 2, call{leaves: leaves(7, 7), play: true, cancel: -1})
	f = &batch.Forest{}
	f.Keep()
	for _, c := range []call{{}, {leaves: leaves(0, 3), stop: -1}, {play: true}, {leaves: leaves(0, 3), play: true, cancel: -1}} {
		c.ask(f)
	}
	f.Close()
}
