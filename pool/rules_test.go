package pool_test

import (
	"fmt"
	"slices"
	"sync"
	"testing"

	"massif/api"
)

// Rule R3: what is handed in, parts and each list in it, is not changed, and what lies behind a list's length is neither
// read nor written.
func TestHandedInStays(t *testing.T) {
	for seed := range dice(200) {
		d := seed
		parts := d.parts(10, 5)
		if d.roll(5) == 0 {
			parts = append(parts, partsOf(d.roll(7))...)
		}
		room := make([][]api.Hash, len(parts))
		for i, part := range parts {
			room[i] = behind(part, slices.Repeat([]api.Hash{leaf(-1 - i)}, 1+d.roll(2*len(part)+1))...)
		}
		further := [][]api.Hash{{leaf(-50), leaf(-51), leaf(-52)}, nil, {leaf(-53)}}
		room = behind(room, further...)
		was := copied(fully(room))
		c := call{1 + d.roll(32), room, 1 + d.roll(12), d.roll(len(parts)+4) - 2}
		alike(t, c.String(), c.ask(), call{c.w, parts, c.workers, c.stop}.plain())
		same(t, c.String(), "how many parts were handed in", len(fully(room)), len(was))
		for i, part := range fully(room) {
			if !slices.Equal(part, was[i]) {
				t.Fatalf("%s: part %d, which was handed in, is another one", c, i)
			}
		}
	}
}

// fully is parts with all that lies behind the lengths of them and their lists.
func fully(parts [][]api.Hash) [][]api.Hash {
	var l [][]api.Hash
	for _, part := range parts[:cap(parts)] {
		l = append(l, part[:cap(part)])
	}
	return l
}

// Rule R3: what was handed in is not kept: written over behind the call, it changes no list that was answered.
func TestHandedInIsNotKept(t *testing.T) {
	for seed := range dice(100) {
		d := seed
		parts := d.parts(10, 5)
		c := call{1 + d.roll(32), parts, 1 + d.roll(12), -1}
		when, want, got := c.String(), c.plain(), c.ask()
		for _, part := range parts {
			overwrite(part, leaf(-1))
		}
		overwrite(parts, nil)
		alike(t, when, got, want)
	}
}

// Rule R3: lists that are answered are new, and share nothing with one another or with what was handed in, their spare
// room neither: each of them written over, the others and the parts stay, and the next answer is the same.
func TestAnswersAreNew(t *testing.T) {
	for seed := range dice(100) {
		d := seed
		parts := d.parts(8, 4)
		c := call{1 + d.roll(32), parts, 1 + d.roll(12), -1}
		was, want := copied(parts), c.plain()
		got, other := c.ask(), c.ask()
		for i := range got.lists {
			overwrite(got.lists[i], leaf(-1))
			got.lists[i] = append(got.lists[i], leaf(-2))
			for j := i + 1; j < len(want.lists); j++ {
				if !slices.Equal(got.lists[j], want.lists[j]) {
					t.Fatalf("%s: list %d is another one when list %d is written over", c, j, i)
				}
			}
		}
		overwrite(got.lists, []api.Hash{leaf(-3)})
		sameLists(t, c.String()+": what was handed in", parts, was)
		alike(t, c.String()+": another answer", other, want)
		alike(t, c.String()+" again", c.ask(), want)
	}
}

// Rule R3: lists that are answered, each appended to.
func TestAnswersAppendedTo(t *testing.T) {
	c := call{32, partsOf(1, 1, 2, 4, 1, 8), 3, -1}
	want, got := c.plain(), c.ask()
	for i := range got.lists {
		_ = append(got.lists[i], leaf(-1), leaf(-2))
	}
	_ = append(got.lists, nil)
	alike(t, c.String(), got, want)
	sameLists(t, "what was handed in", c.parts, partsOf(1, 1, 2, 4, 1, 8))
}

// Rule R3: beside an error, and beside None, there is no list at all.
func TestNoListBesideThem(t *testing.T) {
	for _, c := range []call{
		{32, partsOf(2, 1), 0, -1}, {32, partsOf(2, 1), 65, 1}, {32, partsOf(2, 3), 2, -1}, {32, partsOf(2, 3), 2, 1},
		{32, partsOf(1<<16, 1), 2, -1}, {32, partsOf(2, 1), 2, 0}, {32, partsOf(2, 1), 2, 1},
	} {
		got := c.ask()
		same(t, c.String(), "how many lists there are", len(got.lists[:cap(got.lists)]), 0)
		same(t, c.String(), "the outcome", got.outcome == 0, got.e != api.OK)
	}
}

// Rule R4: calls beside each other, from several goroutines and on the same parts, answer what they answer alone.
func TestBesideEachOther(t *testing.T) {
	parts := partsOf(8, 1, 2, 32, 4, 1, 16, 2)
	want := map[int]said{}
	for w := 1; w <= 8; w++ {
		want[w] = call{w, parts, 1, -1}.plain()
	}
	var all sync.WaitGroup
	wrong := make(chan string, 16)
	for g := range 16 {
		all.Go(func() {
			if at := besideOthers(parts, want, dice(g)); at != "" {
				wrong <- at
			}
		})
	}
	all.Wait()
	close(wrong)
	for at := range wrong {
		t.Error(at)
	}
}

// besideOthers asks drawn calls, and is the first of them whose answer is another one than it should be.
func besideOthers(parts [][]api.Hash, want map[int]said, d dice) string {
	for range 60 {
		c := call{1 + d.roll(8), parts, 1 + d.roll(api.MaxWorkers), d.roll(2*len(parts)) - 2}
		got, should := c.ask(), said{outcome: api.None}
		if c.stop < 0 || c.stop >= len(parts) {
			should = want[c.w]
		}
		if got.e != should.e || got.outcome != should.outcome || !slices.EqualFunc(got.lists, should.lists, slices.Equal) {
			return fmt.Sprint(c, " beside others has another answer")
		}
	}
	return ""
}
