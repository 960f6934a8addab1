package loom_test

import (
	"fmt"
	"slices"
	"testing"

	"massif/api"
	"massif/loom"
)

// schedules goes through every schedule of a loom with a cancel ahead of some move (or at the end, or never), each from
// the beginning on, and holds all that is told behind each move; it calls end with each loom that has ended.
func schedules(t *testing.T, s shape, cancel int, end func(picks []int, l *loom.Loom)) {
	t.Helper()
	var picks []int
	for {
		l, m := made(t, s.workers, s.jobs, s.room)
		var sizes []int
		for at := 0; ; at++ {
			if at == cancel {
				act(t, s.String(), l, m, cancelIt)
			}
			hold(t, s.String(), l, m)
			n := len(m.moves())
			if n == 0 {
				break
			}
			sizes = append(sizes, n)
			if at == len(picks) {
				picks = append(picks, 0)
			}
			act(t, s.String(), l, m, picks[at])
		}
		refused(t, s.String(), l, m)
		end(picks, l)
		for len(picks) > 0 && picks[len(picks)-1] == sizes[len(picks)-1]-1 {
			picks = picks[:len(picks)-1]
		}
		if len(picks) == 0 {
			return
		}
		picks[len(picks)-1]++
	}
}

// Promises 13.2 to 13.4: every schedule of the smallest looms, move by move; the same picks played are the same run.
func TestEverySchedule(t *testing.T) {
	free := append(shapes(2, 2, 1), shape{1, 3, 0}, shape{1, 3, 2}, shape{2, 1, 3}, shape{3, 1, 0}, shape{3, 1, 1}, shape{3, 0, 0})
	for _, s := range free {
		schedules(t, s, -1, func(picks []int, l *loom.Loom) { playedAlike(t, s, picks, -1, l) })
	}
	for _, s := range append(shapes(1, 2, 2), shape{2, 0, 0}, shape{2, 1, 0}, shape{2, 1, 1}, shape{3, 0, 1}, shape{2, 2, 0}) {
		for cancel := range s.most() + 2 {
			schedules(t, s, cancel, func(picks []int, l *loom.Loom) { playedAlike(t, s, picks, cancel, l) })
		}
	}
}

// playedAlike plays picks, and holds the outcome against a loom to which these moves were made one by one.
func playedAlike(t *testing.T, s shape, picks []int, cancel int, by *loom.Loom) {
	t.Helper()
	l, _ := made(t, s.workers, s.jobs, s.room)
	same(t, s.String(), "Play", l.Play(picks, cancel), len(picks))
	alike(t, s.String(), l, by)
}

// alike holds two looms against each other.
func alike(t *testing.T, when string, a, b *loom.Loom) {
	t.Helper()
	sameList(t, when, "Moves", a.Moves(), b.Moves())
	same(t, when, "Gauge", a.Gauge(), b.Gauge())
	same(t, when, "Top", a.Top(), b.Top())
	same(t, when, "Made", a.Made(), b.Made())
	same(t, when, "Gone", a.Gone(), b.Gone())
	sameList(t, when, "Answers", a.Answers(), b.Answers())
	same(t, when, "Outcome", a.Outcome(), b.Outcome())
}

// states goes through all that a loom can come to by moves and the cancel, once each, and holds all that is told there; it
// calls at with each of them.
func states(t *testing.T, s shape, first []int, at func(l *loom.Loom, m *plain)) {
	t.Helper()
	_, start := made(t, s.workers, s.jobs, s.room)
	seen := map[string]struct{}{}
	var down func(m *plain, way []int)
	down = func(m *plain, way []int) {
		if _, ok := seen[fmt.Sprint(*m)]; ok {
			return
		}
		seen[fmt.Sprint(*m)] = struct{}{}
		l, again := made(t, s.workers, s.jobs, s.room)
		for _, k := range way {
			act(t, s.String(), l, again, k)
		}
		hold(t, s.String(), l, m)
		refused(t, s.String(), l, m)
		at(l, m)
		for k, x := range m.moves() {
			next := m.clone()
			next.do(x)
			down(next, append(slices.Clone(way), k))
		}
		if !m.cancelled {
			next := m.clone()
			next.cancelled = true
			down(next, append(slices.Clone(way), cancelIt))
		}
	}
	for _, k := range first {
		if k == cancelIt {
			start.cancelled = true
		}
	}
	down(start, first)
}

// Promises 13.2 to 13.4: all that looms of a few workers, jobs and room can come to, with a cancel at each time.
func TestEveryState(t *testing.T) {
	for _, s := range append(shapes(2, 2, 3), shape{1, 3, 0}, shape{1, 3, 1}, shape{1, 4, 2}, shape{3, 1, 0}, shape{3, 1, 1}, shape{3, 2, 0}, shape{4, 1, 0}, shape{2, 3, 0}, shape{2, 3, 1}, shape{2, 4, 2}, shape{3, 3, 0}, shape{3, 2, 1}) {
		states(t, s, nil, func(*loom.Loom, *plain) {})
	}
}

// Promises 13.2 to 13.4: greater looms, by moves that are drawn, with a cancel at some time or never.
func TestDrawnMoves(t *testing.T) {
	for seed := range dice(300) {
		d := seed
		s := shape{1 + d.roll(9), d.roll(20), d.roll(6)}
		if seed%10 == 0 {
			s = shape{mostWorkers - d.roll(2), d.roll(200), d.roll(90)}
		}
		l, m := made(t, s.workers, s.jobs, s.room)
		cancel := d.roll(2*s.most() + 2)
		for at := 0; ; at++ {
			when := fmt.Sprintf("%v, run %d, move %d", s, seed, at)
			if at == cancel {
				act(t, when, l, m, cancelIt)
			}
			hold(t, when, l, m)
			if at%7 == 0 {
				refused(t, when, l, m)
			}
			n := len(m.moves())
			if n == 0 {
				break
			}
			act(t, when, l, m, d.roll(n))
		}
	}
}

// Promise 13.2: the channel holds up to room jobs, first in, first out; Put is there just as long as there is room, and a
// next job.
func TestChannel(t *testing.T) {
	for _, s := range []shape{{1, 6, 1}, {2, 6, 2}, {3, 6, 5}, {1, 6, 6}, {1, 6, 7}, {2, 3, mostJobs}} {
		l, m := made(t, s.workers, s.jobs, s.room)
		for job := range min(s.jobs, s.room) {
			take(t, s.String(), l, m, api.Move{Kind: api.Put, Job: job})
		}
		if kindsOf(l)[api.Put] > 0 || (kindsOf(l)[api.Shut] > 0) != (s.room >= s.jobs) {
			t.Fatalf("%v: the channel is full, or nothing is left to put: %v", s, l.Moves())
		}
		for job := range s.jobs {
			take(t, s.String(), l, m, api.Move{Kind: api.Give, Worker: job % s.workers, Job: job})
			if kindsOf(l)[api.Put] != min(1, max(0, s.jobs-s.room-job)) {
				t.Fatalf("%v: one has been given: %v", s, l.Moves())
			}
			if job+s.room < s.jobs {
				take(t, s.String(), l, m, api.Move{Kind: api.Put, Job: job + s.room})
			}
			take(t, s.String(), l, m, api.Move{Kind: api.Answer, Worker: job % s.workers, Job: job})
		}
		same(t, s.String(), "Outcome", l.Outcome(), api.Whole)
	}
}

// kindsOf is how many moves of each kind can be made.
func kindsOf(l *loom.Loom) [api.Quit + 1]int {
	var n [api.Quit + 1]int
	for _, x := range l.Moves() {
		n[x.Kind]++
	}
	return n
}

// Promise 13.2: with room 0 no Put is ever made: jobs go from the feeder to the workers; one that has quit gives no more.
func TestNoRoom(t *testing.T) {
	for seed := range dice(60) {
		d := seed
		s := shape{1 + d.roll(5), 1 + d.roll(9), 0}
		l, m := made(t, s.workers, s.jobs, s.room)
		cancel, gives, shut := d.roll(3*s.most()), 0, false
		for at := 0; len(l.Moves()) > 0; at++ {
			if at == cancel {
				act(t, s.String(), l, m, cancelIt)
			}
			k := d.roll(len(l.Moves()))
			x := l.Moves()[k]
			switch {
			case x.Kind == api.Put, x.Kind == api.Give && (shut || x.Job != gives):
				t.Fatalf("%v: %v can be made", s, x)
			case x.Kind == api.Give:
				gives++
			case x.Kind == api.Shut, x.Kind == api.Quit && x.Worker == api.Feeder:
				shut = true
			}
			act(t, s.String(), l, m, k)
			hold(t, s.String(), l, m)
		}
	}
}

// Promise 13.2: a worker that quits with a job loses it: nobody answers it, and the outcome can't be Whole any more.
func TestLostJob(t *testing.T) {
	for _, room := range []int{0, 1, 2} {
		for lost := range 3 {
			when := fmt.Sprintf("room %d, job %d lost", room, lost)
			l, m := made(t, 3, 3, room)
			for job := range 3 {
				if room > 0 {
					take(t, when, l, m, api.Move{Kind: api.Put, Job: job})
				}
				take(t, when, l, m, api.Move{Kind: api.Give, Worker: job, Job: job})
			}
			act(t, when, l, m, cancelIt)
			same(t, when, "Gauge", l.Gauge(), 3)
			take(t, when, l, m, api.Move{Kind: api.Quit, Worker: lost})
			same(t, when, "Gauge", l.Gauge(), 2)
			same(t, when, "Top", l.Top(), 3)
			same(t, when, "Gone", l.Gone(), 1)
			take(t, when, l, m, api.Move{Kind: api.Shut})
			for w := range 3 {
				if w != lost {
					take(t, when, l, m, api.Move{Kind: api.Answer, Worker: w, Job: w})
					take(t, when, l, m, api.Move{Kind: api.Leave, Worker: w})
				}
			}
			same(t, when, "Outcome", l.Outcome(), 0)
			sameList(t, when, "Moves", l.Moves(), []api.Move{{Kind: api.Quit, Worker: api.Collector}})
			take(t, when, l, m, api.Move{Kind: api.Quit, Worker: api.Collector})
			same(t, when, "Outcome", l.Outcome(), api.None)
			sameList(t, when, "Answers", l.Answers(), slices.DeleteFunc([]int{0, 1, 2}, func(job int) bool { return job == lost }))
		}
	}
}

// Promise 13.2: jobs that the channel holds when the feeder has quit are given and answered all the same; those that the
// feeder had are not, and idle workers leave when the channel is empty.
func TestChannelBehindQuit(t *testing.T) {
	l, m := made(t, 2, 4, 3)
	take(t, "put", l, m, api.Move{Kind: api.Put, Job: 0})
	take(t, "put", l, m, api.Move{Kind: api.Put, Job: 1})
	act(t, "cancel", l, m, cancelIt)
	take(t, "quit", l, m, api.Move{Kind: api.Quit, Worker: api.Feeder})
	same(t, "quit", "Gone", l.Gone(), 1)
	if k := kindsOf(l); k[api.Put] > 0 || k[api.Shut] > 0 || k[api.Leave] > 0 || k[api.Give] != 2 {
		t.Fatal("the feeder has quit: ", l.Moves())
	}
	take(t, "given", l, m, api.Move{Kind: api.Give, Worker: 1, Job: 0})
	take(t, "given", l, m, api.Move{Kind: api.Give, Worker: 0, Job: 1})
	take(t, "answered", l, m, api.Move{Kind: api.Answer, Worker: 0, Job: 1})
	take(t, "left", l, m, api.Move{Kind: api.Leave, Worker: 0})
	take(t, "answered", l, m, api.Move{Kind: api.Answer, Worker: 1, Job: 0})
	take(t, "left", l, m, api.Move{Kind: api.Leave, Worker: 1})
	sameList(t, "left", "Moves", l.Moves(), []api.Move{{Kind: api.Quit, Worker: api.Collector}})
	sameList(t, "left", "Answers", l.Answers(), []int{1, 0})
}

// Promise 13.2: where the collector has quit, no answer comes to anybody: who holds a job can but quit.
func TestCollectorQuits(t *testing.T) {
	for _, room := range []int{0, 2} {
		l, m := made(t, 2, 2, room)
		for job := range 2 {
			if room > 0 {
				take(t, "put", l, m, api.Move{Kind: api.Put, Job: job})
			}
			take(t, "given", l, m, api.Move{Kind: api.Give, Worker: job, Job: job})
		}
		take(t, "answered", l, m, api.Move{Kind: api.Answer, Worker: 1, Job: 1})
		act(t, "cancel", l, m, cancelIt)
		take(t, "quit", l, m, api.Move{Kind: api.Quit, Worker: api.Collector})
		same(t, "quit", "Outcome", l.Outcome(), api.None)
		same(t, "quit", "Gauge", l.Gauge(), 1)
		take(t, "shut", l, m, api.Move{Kind: api.Shut})
		sameList(t, "shut", "Moves", l.Moves(), []api.Move{{Kind: api.Leave, Worker: 1}, {Kind: api.Quit, Worker: 0}, {Kind: api.Quit, Worker: 1}})
		take(t, "left", l, m, api.Move{Kind: api.Leave, Worker: 1})
		sameList(t, "left", "Moves", l.Moves(), []api.Move{{Kind: api.Quit, Worker: 0}})
		take(t, "quit", l, m, api.Move{Kind: api.Quit, Worker: 0})
		same(t, "all", "Gone", l.Gone(), 4)
		sameList(t, "all", "Answers", l.Answers(), []int{1})
		same(t, "all", "Outcome", l.Outcome(), api.None)
	}
}

// orders are all orders of a list.
func orders(l []int) [][]int {
	if len(l) == 0 {
		return [][]int{nil}
	}
	var all [][]int
	for k, x := range l {
		for _, o := range orders(slices.Delete(slices.Clone(l), k, k+1)) {
			all = append(all, append([]int{x}, o...))
		}
	}
	return all
}

// Promises 13.2 and 13.3: feeder, collector and workers, idle and not, quit in each order; the Quits that are left are
// told in the order of their workers.
func TestQuitInEachOrder(t *testing.T) {
	for _, room := range []int{0, 2} {
		for given := range 3 {
			for _, order := range orders([]int{api.Feeder, api.Collector, 0, 1, 2}) {
				when := fmt.Sprintf("room %d, %d given, %v", room, given, order)
				l, m := made(t, 3, 3, room)
				for job := range given {
					if room > 0 {
						take(t, when, l, m, api.Move{Kind: api.Put, Job: job})
					}
					take(t, when, l, m, api.Move{Kind: api.Give, Worker: 2 - job, Job: job})
				}
				act(t, when, l, m, cancelIt)
				for k, who := range order {
					sameList(t, when, "Quits", quitsOf(l), slices.Sorted(slices.Values(order[k:])))
					take(t, when, l, m, api.Move{Kind: api.Quit, Worker: who})
					same(t, when, "Gone", l.Gone(), k+1)
				}
				same(t, when, "Outcome", l.Outcome(), api.None)
				same(t, when, "Top", l.Top(), given)
				refused(t, when, l, m)
			}
		}
	}
}

// quitsOf are those who can quit, in the order in which they are told.
func quitsOf(l *loom.Loom) []int {
	var who []int
	for _, x := range l.Moves() {
		if x.Kind == api.Quit {
			who = append(who, x.Worker)
		}
	}
	return who
}

// Promise 13.3: moves rise by Kind, and those of one Kind by Worker, with as many workers as there can be.
func TestOrderOfMoves(t *testing.T) {
	for seed := range dice(30) {
		d := seed
		l, m := made(t, mostWorkers, 100, d.roll(3)*50)
		for at := 0; len(l.Moves()) > 0; at++ {
			moves := l.Moves()
			for k := 1; k < len(moves); k++ {
				a, b := moves[k-1], moves[k]
				if a.Kind > b.Kind || a.Kind == b.Kind && a.Worker >= b.Worker {
					t.Fatalf("%v stands ahead of %v", a, b)
				}
			}
			if at == 150 {
				act(t, "order", l, m, cancelIt)
			} else {
				act(t, "order", l, m, d.roll(len(moves)))
			}
		}
	}
}

// Promise 13.3: Move with the first place, the last one and one past it; a place below 0; and once all have left.
func TestMovePlaces(t *testing.T) {
	for _, s := range shapes(3, 3, 2) {
		for _, last := range []bool{false, true} {
			l, m := made(t, s.workers, s.jobs, s.room)
			for n := len(l.Moves()); n > 0; n = len(l.Moves()) {
				same(t, s.String(), "Move", l.Move(n), api.ErrMove)
				same(t, s.String(), "Move", l.Move(-1), api.ErrMove)
				refused(t, s.String(), l, m)
				if last {
					act(t, s.String(), l, m, n-1)
				} else {
					act(t, s.String(), l, m, 0)
				}
			}
			for _, k := range []int{least, -1, 0, 1, far} {
				same(t, s.String(), "Move, all have left", l.Move(k), api.ErrMove)
			}
			hold(t, s.String(), l, m)
		}
	}
}

// Promise 13.3: the cancel is made once; it is no move; when all have left, it changes nothing, and is made all the same.
func TestCancel(t *testing.T) {
	for _, s := range shapes(3, 3, 2) {
		l, m := made(t, s.workers, s.jobs, s.room)
		act(t, s.String(), l, m, cancelIt)
		same(t, s.String(), "Made", l.Made(), 0)
		refused(t, s.String(), l, m)
		same(t, s.String(), "Play", l.Play(nil, 0), m.play(nil, -1))
		refused(t, s.String(), l, m)

		l, m = made(t, s.workers, s.jobs, s.room)
		same(t, s.String(), "Play", l.Play(nil, -1), m.play(nil, -1))
		hold(t, s.String(), l, m)
		act(t, s.String(), l, m, cancelIt)
		same(t, s.String(), "Made", l.Made(), s.most())
		same(t, s.String(), "Outcome", l.Outcome(), api.Whole)
		refused(t, s.String(), l, m)
	}
}
