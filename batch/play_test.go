package batch_test

import (
	"fmt"
	"testing"

	"massif/api"
	"massif/loom"
)

// Promises 15.2, 15.4, 15.5, 15.6: each small number of leaves at each small size, by many picks, with a cancel ahead of
// each move that there can be, and without.
func TestPlayEach(t *testing.T) {
	met := map[int]int{}
	for n := range 10 {
		for k := range 10 {
			d := dice(100*n + k)
			workers, room := 1+d.roll(4), d.roll(4)
			for cancel := -2; cancel <= loom.Most(workers, parts(uint64(n), k), room)+2; cancel++ {
				for _, picks := range [][]int{nil, d.picks(3), d.picks(40), d.picks(40)} {
					w, log := 1+(n+k)%32, k%4
					got, twin := of(t, w, log, n), of(t, w, log, n)
					c := call{leaves: leaves(n, k), play: true, room: room, picks: picks, cancel: cancel}
					said := check(t, "each", over(t, got, workers), got, twin, workers, c)
					met[said.outcome]++
					if said.outcome != api.Whole && (cancel < 0 || k == 0) {
						t.Fatalf("%v at %d is %v", c, n, said)
					}
				}
			}
		}
	}
	if len(met) != 2 || met[api.Whole] < 500 || met[api.None] < 500 {
		t.Fatalf("the outcomes that were met: %v", met)
	}
}

// Promise 15.4: picks whose moves are known: the jobs are the parts, the workers those of the forest, the room that which
// is handed in.
func TestPlayKnown(t *testing.T) {
	for _, c := range []struct {
		workers, k, room int // leaves behind 5 others: 1 is one part, 3 are two
		picks            []int
		cancel           int
		want             int
	}{
		// Give 0, Quit Feeder, Quit Collector, Quit 0.
		{1, 1, 0, nil, 0, api.Whole}, {1, 1, 0, []int{0}, 0, api.Whole}, {1, 1, 0, []int{2}, 0, api.None}, {1, 1, 0, []int{3}, 0, api.None}, {1, 1, 0, []int{1}, 0, api.None},
		{1, 1, 0, []int{4}, 0, api.Whole}, {1, 1, 0, []int{-2}, 0, api.None}, {1, 1, 0, []int{-4}, 0, api.Whole}, {1, 1, 0, []int{least}, 0, api.Whole}, {1, 1, 0, []int{far}, 0, api.None},
		// behind Give 0: Shut, Answer 0, Quit Feeder, Quit Collector, Quit 0.
		{1, 1, 0, []int{0, 1, 4}, 0, api.Whole}, {1, 1, 0, []int{0, 3}, 0, api.None}, {1, 1, 0, []int{0, 4}, 0, api.None}, {1, 1, 0, []int{0, 2, 0}, 0, api.Whole},
		{1, 1, 0, []int{0, 1, 1}, 1, api.Whole}, {1, 1, 0, []int{0, 3}, 1, api.None}, {1, 1, 0, []int{0, 1, 3}, 2, api.Whole}, {1, 1, 0, []int{0, 0, 2}, 2, api.None},
		// two workers: Give 0, Give 1, Quit Feeder, Quit Collector, Quit 0, Quit 1: one who quits leaves the other.
		{2, 1, 0, []int{2}, 0, api.None}, {2, 1, 0, []int{3}, 0, api.None}, {2, 1, 0, []int{4}, 0, api.Whole}, {2, 1, 0, []int{5}, 0, api.Whole}, {2, 1, 0, []int{1, 4}, 0, api.Whole}, {2, 1, 0, []int{1, 5}, 0, api.None},
		// with room: Put, Quit Feeder, Quit Collector, Quit 0; behind Put: Give 0, Shut, Quit Feeder, ..: the job is in the channel.
		{1, 1, 1, []int{1}, 0, api.None}, {1, 1, 1, []int{0, 2}, 0, api.Whole}, {1, 1, 1, []int{0, 3}, 0, api.None}, {1, 1, 1, []int{0, 4}, 0, api.None}, {1, 1, 1, nil, 0, api.Whole},
		// two jobs, one worker: by the first of all moves Give 0, Answer 0, Give 0, Shut, Answer 0, Leave 0.
		{1, 3, 0, nil, 0, api.Whole}, {1, 3, 0, []int{0, 0, 1}, 0, api.None}, {1, 3, 0, []int{0, 0, 2}, 0, api.None}, {1, 3, 0, []int{0, 0, 0, 3}, 0, api.None}, {1, 3, 0, []int{0, 0, 0, 1, 4}, 0, api.Whole},
		// two jobs, room 2: Put, Put: the feeder may quit, and both are done.
		{1, 3, 2, []int{0, 0, 2}, 0, api.Whole}, {1, 3, 1, []int{0, 1}, 0, api.None}, {1, 3, 2, []int{0, 2}, 0, api.None},
	} {
		got, twin := of(t, 32, 1, 5), of(t, 32, 1, 5)
		ask := call{leaves: leaves(5, c.k), play: true, room: c.room, picks: c.picks, cancel: c.cancel}
		said := check(t, fmt.Sprint(c.workers, " workers"), over(t, got, c.workers), got, twin, c.workers, ask)
		same(t, fmt.Sprintf("%d workers: %v", c.workers, ask), "the outcome", said.outcome, c.want)
	}
}

// runs are the picks of all runs of a loom with a cancel ahead of a move.
func runs(workers, jobs, room, cancel int) [][]int {
	var all [][]int
	var from func(picks []int)
	from = func(picks []int) {
		l, _ := loom.New(workers, jobs, room)
		for at, k := range picks {
			if at == cancel {
				l.Cancel()
			}
			l.Move(k)
		}
		if len(picks) == cancel {
			l.Cancel()
		}
		moves := len(l.Moves())
		if moves == 0 {
			all = append(all, picks)
		}
		for k := range moves {
			from(append(picks[:len(picks):len(picks)], k))
		}
	}
	from(nil)
	return all
}

// Promises 15.4 to 15.6: every schedule of small batches: what is left is one of the two, and with a cancel ahead of the
// first move both are met.
func TestPlayEverySchedule(t *testing.T) {
	for _, c := range []struct{ n, k, workers, room int }{{5, 1, 1, 0}, {5, 1, 2, 0}, {5, 1, 1, 1}, {5, 1, 2, 1}, {5, 3, 1, 0}, {5, 3, 1, 1}, {5, 3, 1, 2}, {5, 3, 2, 0}, {5, 7, 1, 1}} {
		jobs := parts(uint64(c.n), c.k)
		before, behind := of(t, 32, 1, c.n), of(t, 32, 1, c.n)
		events := one(behind, leaves(c.n, c.k))
		for cancel := -1; cancel <= 5; cancel++ {
			met := map[int]int{}
			for _, picks := range runs(c.workers, jobs, c.room, cancel) {
				k := of(t, 32, 1, c.n)
				outcome, got, e := over(t, k, c.workers).Play(leaves(c.n, c.k), c.room, picks, cancel)
				when := fmt.Sprint(c, picks, cancel)
				same(t, when, "the error", e, api.OK)
				met[outcome]++
				if outcome == api.Whole {
					sameEvents(t, when, got, events)
					same(t, when, "Root", k.Root(), behind.Root())
					sameList(t, when, "Live", k.Live(), behind.Live())
					continue
				}
				sameEvents(t, when, got, nil)
				same(t, when, "Root", k.Root(), before.Root())
				sameList(t, when, "Live", k.Live(), before.Live())
			}
			right := met[api.Whole] > 0
			switch {
			case cancel < 0:
				right = right && len(met) == 1
			case cancel == 0:
				right = right && len(met) == 2 && met[api.None] > 0
			}
			if !right || met[0] > 0 {
				t.Fatalf("%v, cancel %d: the outcomes that were met: %v", c, cancel, met)
			}
		}
	}
}

// Promise 15.4: a cancel that comes when all moves have been made, or later, changes nothing; nor do picks that are more
// than the moves.
func TestPlayToTheEnd(t *testing.T) {
	for _, room := range []int{0, 1, 5} {
		for workers := 1; workers < 5; workers++ {
			end := loom.Most(workers, parts(5, 11), room)
			for _, cancel := range []int{least, -1, end, end + 1, far} {
				var d dice
				for _, picks := range [][]int{nil, d.picks(1), d.picks(end - 1), d.picks(end), d.picks(end + 1), d.picks(5 * end)} {
					got, twin := of(t, 32, 1, 5), of(t, 32, 1, 5)
					said := check(t, "to the end", over(t, got, workers), got, twin, workers, call{leaves: leaves(5, 11), play: true, room: room, picks: picks, cancel: cancel})
					same(t, "to the end", "the outcome", said.outcome, api.Whole)
				}
			}
		}
	}
}

// Promise 15.4: a Play that is Whole leaves what Append leaves, and tells the same events.
func TestPlayIsLikeAppend(t *testing.T) {
	for n := range 12 {
		for k := range 12 {
			a, b := of(t, 5, 1, n), of(t, 5, 1, n)
			d := dice(n + 50*k)
			played := call{leaves: leaves(n, k), play: true, room: d.roll(3), picks: d.picks(50), cancel: -1}
			when := fmt.Sprint(played, " at ", n)
			alike(t, when, played.ask(over(t, a, 3)), call{leaves: leaves(n, k), stop: -1}.ask(over(t, b, 4)))
			sameKeep(t, when, a, b)
		}
	}
}
