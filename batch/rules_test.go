package batch_test

import (
	"fmt"
	"slices"
	"sync"
	"testing"

	"massif/api"
	"massif/batch"
	"massif/keep"
)

// Rule R3: leaves and picks that are handed in are not changed, and what lies behind their length is neither read nor
// written.
func TestHandedInStays(t *testing.T) {
	for seed := range dice(200) {
		d := seed
		c := d.call(7, 15)
		room := c
		room.leaves = behind(c.leaves, leaves(-30, 1+d.roll(20))...)
		room.picks = behind(c.picks, 1, 2, 3, 4, 5, 6, 7, 8, 9, 10, 11, 12, 13, 14, 15)
		l, p := slices.Clone(room.leaves[:cap(room.leaves)]), slices.Clone(room.picks[:cap(room.picks)])
		a, b := of(t, 32, 1, 5), of(t, 32, 1, 5)
		alike(t, c.String(), room.ask(over(t, a, 2)), c.plain(b, 2))
		sameKeep(t, c.String(), a, b)
		sameList(t, c.String(), "what was handed in as leaves", room.leaves[:cap(room.leaves)], l)
		sameList(t, c.String(), "what was handed in as picks", room.picks[:cap(room.picks)], p)
	}
}

// Rule R3: what was handed in is not kept: written over behind the call, it changes neither the answer nor the keep.
func TestHandedInIsNotKept(t *testing.T) {
	for seed := range dice(200) {
		d := seed
		c := d.call(7, 15)
		when := c.String()
		a, b := of(t, 32, 1, 5), of(t, 32, 1, 5)
		f := over(t, a, 2)
		want, got := c.plain(b, 2), c.ask(f)
		overwrite(c.leaves, leaf(-1))
		overwrite(c.picks, 77)
		alike(t, when, got, want)
		sameKeep(t, when, a, b)
		check(t, when+", and behind it", f, a, b, 2, call{leaves: leaves(50, 6), stop: -1})
		goOn(t, when, a, b, int(seed))
	}
}

// Rule R3: events and their peaks are new: written over one after the other, their spare room too, they change neither one
// another nor the keep, nor what was handed in, nor later answers.
func TestAnswersAreNew(t *testing.T) {
	for seed := range dice(60) {
		d := seed
		a := of(t, 32, 1, d.roll(12))
		b := again(t, a)
		f := over(t, a, 2)
		for turn := range 4 {
			c := d.call(100*turn, 9)
			was := slices.Clone(c.leaves)
			when := fmt.Sprintf("run %d: %v", seed, c)
			got, want := c.ask(f), c.plain(b, 2)
			for i := range got.events {
				overwrite(got.events[i].Peaks, leaf(-1))
				got.events[i].Peaks = append(got.events[i].Peaks, leaf(-2), leaf(-3))
				sameEvents(t, when, got.events[i+1:], want.events[i+1:])
			}
			overwrite(got.events, api.Event{Size: 99, Leaf: leaf(-4)})
			sameList(t, when, "what was handed in", c.leaves, was)
			sameKeep(t, when, a, b)
		}
		goOn(t, "written over", a, b, int(seed))
	}
}

// Rule R3: events and their peaks, each appended to.
func TestAnswersAppendedTo(t *testing.T) {
	for n := range 10 {
		a, b := of(t, 32, 1, n), of(t, 32, 1, n)
		got, want := call{leaves: leaves(n, 9), stop: -1}.ask(over(t, a, 2)), one(b, leaves(n, 9))
		for i := range got.events {
			_ = append(got.events[i].Peaks, leaf(-1), leaf(-2))
		}
		_ = append(got.events, api.Event{})
		sameEvents(t, "appended to", got.events, want)
		sameKeep(t, "appended to", a, b)
	}
}

// Rule R3: the same batches of two keeps that are alike share nothing.
func TestAnswersShareNothing(t *testing.T) {
	l := leaves(5, 9)
	a, b := of(t, 32, 1, 5), of(t, 32, 1, 5)
	x, y := call{leaves: l, stop: -1}.ask(over(t, a, 2)), call{leaves: l, stop: -1}.ask(over(t, b, 2))
	want := copied(y.events)
	for i := range x.events {
		overwrite(x.events[i].Peaks, leaf(-1))
	}
	overwrite(x.events, api.Event{})
	sameEvents(t, "beside another", y.events, want)
	sameKeep(t, "beside another", a, b)
}

// Rule R3: beside an error, and beside None, there is no event at all, and beside an error no outcome.
func TestNoEventBesideThem(t *testing.T) {
	for _, c := range []call{
		{leaves: leaves(5, 3), stop: 0}, {leaves: leaves(5, 3), stop: 1}, {leaves: leaves(5, 1), play: true, picks: []int{2}}, {leaves: make([]api.Hash, 1<<16+1), stop: -1},
		{leaves: leaves(5, 3), play: true, room: -1, cancel: -1}, {leaves: make([]api.Hash, 1<<16+1), play: true, cancel: -1},
	} {
		got := c.ask(over(t, of(t, 32, 1, 5), 1))
		same(t, c.String(), "how many events there are", len(got.events[:cap(got.events)]), 0)
		same(t, c.String(), "the outcome", got.outcome == 0, got.e != api.OK)
	}
}

// Rule R4: two forests over two keeps in turns answer what each answers alone.
func TestInTurns(t *testing.T) {
	var d dice
	a, b := of(t, 32, 1, 3), of(t, 2, 0, 8)
	x, y := again(t, a), again(t, b)
	f, g := over(t, a, 1), over(t, b, 7)
	for turn := range 50 {
		check(t, "the first", f, a, x, 1, d.call(100*turn, 6))
		check(t, "the second", g, b, y, 7, d.call(100*turn+50, 6))
		move(t, "the first", a, x, &d)
		move(t, "the second", b, y, &d)
		sameKeep(t, "the first", a, x)
	}
	same(t, "the first", "Close", f.Close(), api.OK)
	check(t, "the second", g, b, y, 7, d.call(9000, 6))
}

// Rule R4: the number of workers makes no difference to Append, nor does how often it is asked.
func TestWorkersMakeNoDifference(t *testing.T) {
	for n := range 8 {
		for stop := -1; stop < 7; stop++ {
			c := call{leaves: leaves(n, 21), stop: stop}
			twin := of(t, 32, 1, n)
			want := c.plain(twin, 1)
			for _, workers := range []int{1, 2, 3, 7, 64} {
				for range 3 {
					k := of(t, 32, 1, n)
					alike(t, fmt.Sprint(c, workers), c.ask(over(t, k, workers)), want)
					same(t, fmt.Sprint(c, workers), "Root", k.Root(), twin.Root())
					sameList(t, fmt.Sprint(c, workers), "Live", k.Live(), twin.Live())
				}
			}
		}
	}
}

// Rule R4: no goroutine is left when a call has answered, cancelled or not, refused or not.
func TestNobodyIsLeft(t *testing.T) {
	before := settled()
	for _, workers := range []int{1, 2, 9, 64} {
		k := of(t, 32, 1, 5)
		f := over(t, k, workers)
		for turn := range 30 {
			for _, c := range []call{{leaves: leaves(turn, 30), stop: turn%12 - 3}, {leaves: leaves(turn, 30), play: true, cancel: turn%30 - 10, picks: []int{turn, 5, 3}}} {
				c.ask(f)
				nobodyLeft(t, c.String(), before)
			}
		}
		call{leaves: make([]api.Hash, 1<<16+1), stop: -1}.ask(f)
		f.Close()
		call{leaves: leaves(0, 9), stop: -1}.ask(f)
		nobodyLeft(t, "closed", before)
	}
}

// Rule R4: forests over keeps of their own, asked beside each other from several goroutines with the same leaves and picks,
// answer what they answer alone.
func TestBesideEachOther(t *testing.T) {
	l, picks := leaves(5, 40), []int{9, 8, 7, 6, 5, 4, 3, 2, 1}
	twin := of(t, 32, 1, 5)
	want := one(twin, l)
	var all sync.WaitGroup
	wrong := make(chan string, 16)
	for g := range 16 {
		k := of(t, 32, 1, 5)
		f := over(t, k, 1+g%5)
		all.Go(func() {
			if at := besideOthers(f, k, l, picks, want, twin.Root()); at != "" {
				wrong <- at
			}
		})
	}
	all.Wait()
	close(wrong)
	for at := range wrong {
		t.Error(at)
	}
}

// besideOthers has batches cancelled, and then one appended, and tells what is wrong of it.
func besideOthers(f *batch.Forest, k *keep.Keep, l []api.Hash, picks []int, want []api.Event, root api.Hash) string {
	was := k.Root()
	for stop := range 3 {
		if outcome, events, e := f.Append(l, stop); outcome != api.None || len(events) != 0 || e != api.OK || k.Root() != was {
			return fmt.Sprint("cancelled: ", outcome, e)
		}
	}
	outcome, events, e := f.Play(l, 2, picks, -1)
	if outcome != api.Whole || e != api.OK || k.Root() != root || len(events) != len(want) {
		return fmt.Sprint("played: ", outcome, e)
	}
	for i := range want {
		if !slices.Equal(events[i].Peaks, want[i].Peaks) {
			return fmt.Sprint("the event ", i, " is another one")
		}
	}
	return ""
}
