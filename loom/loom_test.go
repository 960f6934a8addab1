package loom_test

import (
	"testing"

	"massif/api"
	"massif/loom"
)

// The examples of chapter 13.
func TestExamples(t *testing.T) {
	l, m := made(t, 1, 0, 0)
	sameList(t, "no jobs", "Moves", l.Moves(), []api.Move{{Kind: api.Shut}})
	same(t, "no jobs", "Outcome", l.Outcome(), api.Whole)
	same(t, "no jobs", "Gone", l.Gone(), 1)
	hold(t, "no jobs", l, m)

	l, m = made(t, 2, 2, 0)
	sameList(t, "two jobs", "Moves", l.Moves(), []api.Move{{Kind: api.Give, Worker: 0, Job: 0}, {Kind: api.Give, Worker: 1, Job: 0}})
	act(t, "two jobs", l, m, 1)
	sameList(t, "one given", "Moves", l.Moves(), []api.Move{{Kind: api.Give, Worker: 0, Job: 1}, {Kind: api.Answer, Worker: 1, Job: 0}})
	act(t, "one given", l, m, 0)
	given := []api.Move{{Kind: api.Shut}, {Kind: api.Answer, Worker: 0, Job: 1}, {Kind: api.Answer, Worker: 1, Job: 0}}
	sameList(t, "two given", "Moves", l.Moves(), given)
	same(t, "two given", "Gauge", l.Gauge(), 2)
	same(t, "two given", "Move", l.Move(3), api.ErrMove)
	act(t, "two given", l, m, cancelIt)
	sameList(t, "cancelled", "Moves", l.Moves(), append(given, api.Move{Kind: api.Quit, Worker: api.Feeder}, api.Move{Kind: api.Quit, Worker: api.Collector}, api.Move{Kind: api.Quit, Worker: 0}, api.Move{Kind: api.Quit, Worker: 1}))
	hold(t, "cancelled", l, m)

	l, m = made(t, 1, 1, 1)
	sameList(t, "a channel", "Moves", l.Moves(), []api.Move{{Kind: api.Put, Job: 0}})
	act(t, "a channel", l, m, 0)
	sameList(t, "put", "Moves", l.Moves(), []api.Move{{Kind: api.Give, Worker: 0, Job: 0}, {Kind: api.Shut}})
	hold(t, "put", l, m)

	same(t, "examples", "Most(2, 2, 0)", loom.Most(2, 2, 0), 7)
	same(t, "examples", "Most(1, 1, 1)", loom.Most(1, 1, 1), 5)
	same(t, "examples", "Most(0, 1, 1)", loom.Most(0, 1, 1), 0)
}

// within are numbers about 0 and about a limit, and far from both.
func within(limit int) []int {
	return []int{least, least + 1, -limit, -2, -1, 0, 1, 2, limit - 1, limit, limit + 1, limit + 2, limit + 1<<32, 1 << 62, far}
}

// taken tells which numbers New takes.
func taken(workers, jobs, room int) bool {
	return 1 <= workers && workers <= mostWorkers && 0 <= jobs && jobs <= mostJobs && 0 <= room && room <= mostJobs
}

// Promises 13.1 and 13.6: what New takes and refuses, and what Most says of it.
func TestNewAndMost(t *testing.T) {
	for _, workers := range within(mostWorkers) {
		for _, jobs := range within(mostJobs) {
			for _, room := range within(mostJobs) {
				when := shape{workers, jobs, room}.String()
				l, e := loom.New(workers, jobs, room)
				if !taken(workers, jobs, room) {
					if l != nil || e != api.ErrArg {
						t.Fatalf("%s: New is %v, %v", when, l, e)
					}
					same(t, when, "Most", loom.Most(workers, jobs, room), 0)
					continue
				}
				same(t, when, "New", e, api.OK)
				hold(t, when, l, newPlain(workers, jobs, room))
				want := workers + 1
				for range jobs {
					want += 2
					if room > 0 {
						want++
					}
				}
				same(t, when, "Most", loom.Most(workers, jobs, room), want)
			}
		}
	}
}

// Promise 13.6: some numbers that are written out, the greatest among them.
func TestMost(t *testing.T) {
	for _, x := range []struct {
		s    shape
		want int
	}{
		{shape{1, 0, 0}, 2}, {shape{1, 0, 1}, 2}, {shape{64, 0, 65536}, 65}, {shape{1, 1, 0}, 4}, {shape{3, 5, 0}, 14}, {shape{3, 5, 1}, 19}, {shape{3, 5, 9}, 19}, {shape{64, 65536, 0}, 131137}, {shape{64, 65536, 1}, 196673}, {shape{64, 65536, 65536}, 196673}, {shape{65, 65536, 65536}, 0}, {shape{64, 65537, 65536}, 0}, {shape{64, 65536, 65537}, 0}, {shape{1, -1, 0}, 0}, {shape{1, 0, -1}, 0}, {shape{-1, 0, 0}, 0},
	} {
		same(t, x.s.String(), "Most", x.s.most(), x.want)
	}
}

// Promise 13.1: all workers that there may be, before the first move.
func TestNewOfAllWorkers(t *testing.T) {
	for workers := 1; workers <= mostWorkers; workers++ {
		for _, s := range []shape{{workers, 0, 0}, {workers, 1, 0}, {workers, 7, 0}, {workers, 7, 3}, {workers, 0, 3}} {
			l, m := made(t, s.workers, s.jobs, s.room)
			hold(t, s.String(), l, m)
			act(t, s.String(), l, m, cancelIt)
			hold(t, s.String(), l, m)
		}
	}
}

// Promise 13.1: where there are no jobs, the collector has left: there is no Answer, and no Quit of its own.
func TestNoJobs(t *testing.T) {
	for _, room := range []int{0, 1, 5, mostJobs} {
		for workers := 1; workers <= 5; workers++ {
			when := shape{workers, 0, room}.String()
			l, m := made(t, workers, 0, room)
			same(t, when, "Outcome", l.Outcome(), api.Whole)
			same(t, when, "Gone", l.Gone(), 1)
			sameList(t, when, "Moves", l.Moves(), []api.Move{{Kind: api.Shut}})
			act(t, when, l, m, cancelIt)
			quits := []api.Move{{Kind: api.Shut}, {Kind: api.Quit, Worker: api.Feeder}}
			for w := range workers {
				quits = append(quits, api.Move{Kind: api.Quit, Worker: w})
			}
			sameList(t, when, "Moves", l.Moves(), quits)
			same(t, when, "Play", l.Play([]int{1, -1, -1}, -1), workers+1)
			same(t, when, "Outcome", l.Outcome(), api.Whole)
			sameList(t, when, "Answers", l.Answers(), nil)
			same(t, when, "Top", l.Top(), 0)
		}
	}
}

// Rule R1: one that no call has made takes all calls, too, and ends.
func TestOfNobodysMaking(t *testing.T) {
	for cancel := range 3 {
		var l loom.Loom
		l.Move(1)
		l.Play([]int{3, -1}, cancel)
		l.Cancel()
		l.Play([]int{-1}, 0)
		sameList(t, "of nobody's making", "Moves", l.Moves(), nil)
		same(t, "of nobody's making", "Move", l.Move(0), api.ErrMove)
		same(t, "of nobody's making", "Gauge and Top", l.Gauge()+l.Top(), 0)
		sameList(t, "of nobody's making", "Answers", l.Answers(), nil)
	}
}
