package loom_test

import (
	"fmt"
	"slices"
	"testing"

	"massif/api"
	"massif/loom"
)

// Promises 13.7 and 13.8, and W3: wherever a loom can come to, there is a move as long as somebody has not left; all runs
// end with all having left, within Most, without a cancel with just as many moves, and Whole; Gauge has its bounds, and
// some run comes to the greatest.
func TestItEnds(t *testing.T) {
	for _, s := range append(shapes(2, 3, 2), shape{3, 1, 0}, shape{3, 1, 1}, shape{3, 2, 0}, shape{4, 1, 0}) {
		top := 0
		states(t, s, nil, func(l *loom.Loom, m *plain) {
			if (len(l.Moves()) == 0) != (l.Gone() == s.workers+2) {
				t.Fatalf("%v: %d have left, and the moves are %v", s, l.Gone(), l.Moves())
			}
			if l.Made() > s.most() {
				t.Fatalf("%v: %d moves were made", s, l.Made())
			}
			if l.Gauge() > min(s.workers, s.jobs) || l.Top() > min(s.workers, s.jobs) || l.Gauge() > l.Top() {
				t.Fatalf("%v: Gauge %d, Top %d", s, l.Gauge(), l.Top())
			}
			if len(l.Moves()) == 0 && !m.cancelled {
				same(t, s.String(), "Made", l.Made(), s.most())
				same(t, s.String(), "Outcome", l.Outcome(), api.Whole)
			}
			top = max(top, l.Top())
		})
		same(t, s.String(), "the greatest Top", top, min(s.workers, s.jobs))
	}
}

// Promise 13.9: once the channel is shut, there is no Put, and no Give with room 0; no job is answered twice, and with the
// outcome Whole all are.
func TestShut(t *testing.T) {
	for seed := range dice(600) {
		d := seed
		s := shape{1 + d.roll(6), d.roll(12), d.roll(4)}
		l, _ := made(t, s.workers, s.jobs, s.room)
		cancel, shut := d.roll(2*s.most()+2), false
		for at := 0; ; at++ {
			if at == cancel {
				l.Cancel()
			}
			moves := l.Moves()
			for _, x := range moves {
				if shut && (x.Kind == api.Put || x.Kind == api.Shut || s.room == 0 && x.Kind == api.Give) {
					t.Fatalf("%v, run %d: the channel is shut, and %v can be made", s, seed, x)
				}
			}
			checkAnswers(t, s, l)
			if len(moves) == 0 {
				break
			}
			k := d.roll(len(moves))
			x := moves[k]
			shut = shut || x.Kind == api.Shut || x.Kind == api.Quit && x.Worker == api.Feeder
			same(t, s.String(), "Move", l.Move(k), api.OK)
		}
	}
}

// checkAnswers holds that no job is there twice, and, with the outcome Whole, all of them are.
func checkAnswers(t *testing.T, s shape, l *loom.Loom) {
	t.Helper()
	all := slices.Sorted(slices.Values(l.Answers()))
	for k, job := range all {
		if job < 0 || job >= s.jobs || k > 0 && all[k-1] == job {
			t.Fatalf("%v: Answers is %v", s, l.Answers())
		}
	}
	if whole := l.Outcome() == api.Whole; whole != (len(all) == s.jobs) {
		t.Fatalf("%v: Outcome is %d, Answers %v", s, l.Outcome(), l.Answers())
	}
}

// Promise 13.8: for all workers, and for few and many jobs and little and much room, a run with the greatest Top: nobody
// answers as long as anything else can be done.
func TestGreatestTop(t *testing.T) {
	for workers := 1; workers <= mostWorkers; workers++ {
		for _, jobs := range []int{0, 1, 2, workers - 1, workers, workers + 1, 90} {
			for _, room := range []int{0, 1, 2, workers, mostJobs} {
				s := shape{workers, jobs, room}
				l, _ := made(t, workers, jobs, room)
				for moves := l.Moves(); len(moves) > 0; moves = l.Moves() {
					k := slices.IndexFunc(moves, func(x api.Move) bool { return x.Kind == api.Give })
					same(t, s.String(), "Move", l.Move(max(0, k)), api.OK)
				}
				same(t, s.String(), "Top", l.Top(), min(workers, jobs))
				same(t, s.String(), "Gauge", l.Gauge(), 0)
				same(t, s.String(), "Made", l.Made(), s.most())
			}
		}
	}
}

// Promise 13.10: with a cancel ahead of the first move all runs end as Whole or as None, and for jobs above 0 both are met.
func TestBothOutcomes(t *testing.T) {
	for _, s := range append(shapes(2, 2, 2), shape{1, 3, 1}, shape{3, 1, 0}, shape{3, 1, 2}) {
		ends := map[int]int{}
		states(t, s, []int{cancelIt}, func(l *loom.Loom, m *plain) {
			if len(l.Moves()) == 0 {
				ends[l.Outcome()]++
			}
		})
		if ends[0] > 0 || ends[api.Whole] == 0 || (ends[api.None] > 0) != (s.jobs > 0) {
			t.Fatalf("%v: the outcomes are %v", s, ends)
		}
	}
}

// Promise 13.10: looms of all sizes, cancelled ahead of the first move: who always takes the first move comes to Whole, as
// Quits are the last ones; who always takes the last one comes to None.
func TestBothOutcomesOfPlays(t *testing.T) {
	for workers := 1; workers <= mostWorkers; workers++ {
		for _, jobs := range []int{1, 2, 63, 64, 65} {
			for _, room := range []int{0, 1, 64, mostJobs} {
				s := shape{workers, jobs, room}
				l, _ := made(t, workers, jobs, room)
				same(t, s.String(), "Play", l.Play(nil, 0), s.most())
				same(t, s.String(), "Outcome", l.Outcome(), api.Whole)
				checkAnswers(t, s, l)
				l, _ = made(t, workers, jobs, room)
				same(t, s.String(), "Play", l.Play(slices.Repeat([]int{-1}, workers+2), 0), workers+2)
				same(t, s.String(), "Outcome", l.Outcome(), api.None)
				sameList(t, s.String(), "Answers", l.Answers(), nil)
				same(t, s.String(), "Top", l.Top(), 0)
			}
		}
	}
}

// Promise 13.7: drawn plays, cancelled or not, of greater looms.
func TestDrawnEnds(t *testing.T) {
	for seed := range dice(400) {
		d := seed
		s := shape{1 + d.roll(mostWorkers), d.roll(150), d.roll(80)}
		cancel := d.roll(2*s.most()) - 1
		when := fmt.Sprintf("%v, run %d, cancel %d", s, seed, cancel)
		l, _ := made(t, s.workers, s.jobs, s.room)
		n := l.Play(d.picks(s.most()), cancel)
		if n > s.most() || l.Top() > min(s.workers, s.jobs) || l.Gauge() != 0 {
			t.Fatalf("%s: %d moves, Top %d, Gauge %d", when, n, l.Top(), l.Gauge())
		}
		if cancel < 0 || cancel >= n {
			same(t, when, "Play", n, s.most())
			same(t, when, "Outcome", l.Outcome(), api.Whole)
		}
		same(t, when, "Gone", l.Gone(), s.workers+2)
		checkAnswers(t, s, l)
	}
}
