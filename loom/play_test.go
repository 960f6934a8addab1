package loom_test

import (
	"fmt"
	"slices"
	"testing"

	"massif/api"
	"massif/loom"
)

// byHand makes the moves that Play makes, one by one, by the words of 13.5.
func byHand(t *testing.T, l *loom.Loom, picks []int, cancel int) int {
	t.Helper()
	for at := 0; ; at++ {
		if at == cancel {
			l.Cancel()
		}
		n := len(l.Moves())
		if n == 0 {
			return at
		}
		same(t, "by hand", "Move", l.Move(place(picks, at, n)), api.OK)
	}
}

// cancelled tells whether the cancel has been made, and makes it.
func cancelled(l *loom.Loom) bool { return l.Cancel() == api.ErrMove }

// checkPlay plays a loom, another one by hand, and the model, and holds them against each other; the answer is how many
// moves were made.
func checkPlay(t *testing.T, when string, l, other *loom.Loom, m *plain, picks []int, cancel int) int {
	t.Helper()
	was := l.Made()
	n := l.Play(picks, cancel)
	same(t, when, "Play", n, m.play(picks, cancel))
	same(t, when, "moves by hand", byHand(t, other, picks, cancel), n)
	same(t, when, "Made", l.Made(), was+n)
	hold(t, when, l, m)
	alike(t, when, l, other)
	same(t, when, "the cancel by hand", cancelled(other), m.cancelled)
	same(t, when, "the cancel", cancelled(l), m.cancelled)
	m.cancelled = true
	return n
}

// Promise 13.5: plays of many picks, of either sign, fewer and more than the moves, with a cancel at any time or never.
func TestPlays(t *testing.T) {
	for seed := range dice(3000) {
		d := seed
		s := shape{1 + d.roll(6), d.roll(9), d.roll(4)}
		if seed%100 == 0 {
			s = shape{1 + d.roll(mostWorkers), d.roll(300), d.roll(100)}
		}
		picks := d.picks(d.roll(2 * s.most()))
		cancel := d.roll(s.most()+6) - 3
		when := fmt.Sprintf("%v, run %d, cancel %d", s, seed, cancel)
		l, m := made(t, s.workers, s.jobs, s.room)
		other, _ := made(t, s.workers, s.jobs, s.room)
		checkPlay(t, when, l, other, m, picks, cancel)
	}
}

// Promise 13.5: a cancel ahead of each move that there is, just at the end, behind the end and never.
func TestCancelOfPlay(t *testing.T) {
	for _, s := range append(shapes(3, 4, 2), shape{7, 11, 3}) {
		for _, picks := range [][]int{nil, {1, 2, 3, 4, 5, 6, 7, 8}, {-1, -1, -1, -1, -1, -1}, {5, -3, far, least, 2, 0, 0, 1, -8, 4, 4}} {
			for cancel := -2; cancel <= s.most()+2; cancel++ {
				when := fmt.Sprintf("%v, picks %v, cancel %d", s, picks, cancel)
				l, m := made(t, s.workers, s.jobs, s.room)
				other, _ := made(t, s.workers, s.jobs, s.room)
				checkPlay(t, when, l, other, m, picks, cancel)
			}
			for _, cancel := range []int{least, far, 1 << 40} {
				l, m := made(t, s.workers, s.jobs, s.room)
				other, _ := made(t, s.workers, s.jobs, s.room)
				same(t, s.String(), "Play", checkPlay(t, s.String(), l, other, m, picks, cancel), s.most())
			}
		}
	}
}

// Promise 13.5: the cancel at the end, where it is just as many as are made, and where it is one more.
func TestCancelAtTheEnd(t *testing.T) {
	for _, s := range shapes(3, 3, 2) {
		for _, x := range []struct {
			cancel int
			done   bool
		}{{s.most(), true}, {s.most() + 1, false}, {-1, false}, {far, false}} {
			l, _ := made(t, s.workers, s.jobs, s.room)
			same(t, s.String(), "Play", l.Play([]int{3, 1, 4}, x.cancel), s.most())
			same(t, s.String(), "Outcome", l.Outcome(), api.Whole)
			same(t, s.String(), "the cancel", cancelled(l), x.done)
		}
	}
	l, _ := made(t, 1, 1, 0) // ended by the cancel itself: Give, Quit of all, and a cancel of a later play changes nothing
	same(t, "ended by quits", "Play", l.Play([]int{0, -1, -1, -1}, 1), 4)
	same(t, "ended by quits", "Outcome", l.Outcome(), api.None)
	same(t, "ended by quits", "Play", l.Play(nil, 0), 0)
	same(t, "ended by quits", "the cancel", cancelled(l), true)
}

// Promise 13.5: a loom is played on where single moves have ended: picks and cancel count from there on; a cancel that
// has been made stays so.
func TestPlayBehindMoves(t *testing.T) {
	for seed := range dice(2000) {
		d := seed
		s := shape{1 + d.roll(5), d.roll(7), d.roll(3)}
		l, m := made(t, s.workers, s.jobs, s.room)
		other, _ := made(t, s.workers, s.jobs, s.room)
		ahead, cancel := d.roll(s.most()+2), d.roll(3*s.most())
		for at := 0; at < ahead && len(l.Moves()) > 0; at++ {
			if at == cancel {
				act(t, s.String(), l, m, cancelIt)
				other.Cancel()
			}
			k := d.roll(len(l.Moves()))
			other.Move(k)
			act(t, s.String(), l, m, k)
		}
		when := fmt.Sprintf("%v, run %d, behind %d moves", s, seed, l.Made())
		checkPlay(t, when, l, other, m, d.picks(d.roll(20)), d.roll(s.most()+4)-2)
	}
}

// Promise 13.5: played on where another play has ended: no move is made; the cancel at 0 is made, and no other.
func TestPlayAgain(t *testing.T) {
	for _, s := range shapes(3, 3, 2) {
		for _, first := range []int{-1, 0, 2, s.most()} {
			for _, cancel := range []int{-1, 0, 1, s.most(), far, least} {
				l, m := made(t, s.workers, s.jobs, s.room)
				same(t, s.String(), "Play", l.Play([]int{1, -1, 2}, first), m.play([]int{1, -1, 2}, first))
				same(t, s.String(), "Play again", l.Play([]int{7, 7}, cancel), 0)
				m.play([]int{7, 7}, cancel)
				hold(t, s.String(), l, m)
				same(t, s.String(), "the cancel", cancelled(l), m.cancelled)
			}
		}
	}
}

// Promise 13.5: the remainder of a pick is from 0 on, whatever its sign: among n answers it tells which one is the first.
func TestRemainders(t *testing.T) {
	for _, x := range []struct{ n, pick, want int }{
		{1, least, 0}, {1, far, 0}, {1, -1, 0}, {2, -1, 1}, {2, least, 0}, {2, far, 1}, {3, 0, 0}, {3, 2, 2}, {3, 3, 0}, {3, 4, 1}, {3, -1, 2}, {3, -3, 0}, {3, -4, 2}, {3, least, 1}, {3, least + 1, 2}, {3, least + 2, 0}, {3, far, 1}, {3, far - 1, 0}, {7, -1, 6}, {7, -6, 1}, {7, -7, 0}, {7, -8, 6}, {7, 13, 6}, {7, 14, 0}, {7, 3 + 7<<40, 3}, {7, 3 - 7<<40, 3}, {64, -1, 63}, {64, least, 0}, {64, least + 5, 5}, {64, far, 63}, {64, 64, 0}, {64, 127, 63}, {64, -64, 0}, {64, -65, 63},
	} {
		when := fmt.Sprintf("pick %d of %d", x.pick, x.n)
		l, m := made(t, x.n, x.n, 0)
		for job := range x.n {
			take(t, when, l, m, api.Move{Kind: api.Give, Worker: job, Job: job})
		}
		take(t, when, l, m, api.Move{Kind: api.Shut})
		same(t, when, "Play", l.Play([]int{x.pick}, -1), 2*x.n)
		same(t, when, "the first answer", l.Answers()[0], x.want)
	}
}

// Promise 13.5: plays whose answers are written out; the cancel is no move, and uses up no pick.
func TestAnswersOfAPlay(t *testing.T) {
	for _, x := range []struct {
		s       shape
		picks   []int
		cancel  int
		made    int
		answers []int
		outcome int
	}{
		{shape{1, 2, 0}, nil, -1, 6, []int{0, 1}, api.Whole},
		{shape{2, 2, 0}, nil, -1, 7, []int{0, 1}, api.Whole},
		{shape{2, 2, 0}, []int{0, 0, 2}, -1, 7, []int{1, 0}, api.Whole},
		{shape{2, 2, 0}, []int{1, 0, 1}, -1, 7, []int{1, 0}, api.Whole},
		{shape{1, 1, 0}, []int{2, 2}, 0, 3, nil, api.None},
		{shape{1, 1, 0}, nil, 0, 4, []int{0}, api.Whole},
		{shape{2, 2, 0}, []int{0, 0, 4}, 2, 6, nil, api.None},
		{shape{1, 2, 2}, []int{0, 0, 0, -1}, 3, 6, nil, api.None},
	} {
		l, m := made(t, x.s.workers, x.s.jobs, x.s.room)
		same(t, x.s.String(), "Play", l.Play(x.picks, x.cancel), x.made)
		same(t, x.s.String(), "the model's play", m.play(x.picks, x.cancel), x.made)
		hold(t, x.s.String(), l, m)
		sameList(t, x.s.String(), "Answers", l.Answers(), x.answers)
		same(t, x.s.String(), "Outcome", l.Outcome(), x.outcome)
	}
}

// Promises 13.5 and 13.7: the greatest looms.
func TestGreatest(t *testing.T) {
	for _, room := range []int{0, 1, 64, mostJobs} {
		for _, workers := range []int{1, mostWorkers} {
			s := shape{workers, mostJobs, room}
			for seed := range dice(2) {
				d := seed
				l, _ := made(t, s.workers, s.jobs, s.room)
				same(t, s.String(), "Play", l.Play(d.picks(d.roll(2*s.most())), -1), s.most())
				same(t, s.String(), "Made", l.Made(), s.most())
				same(t, s.String(), "Outcome", l.Outcome(), api.Whole)
				same(t, s.String(), "Gone", l.Gone(), workers+2)
				all := l.Answers()
				slices.Sort(all)
				same(t, s.String(), "how many answers", len(all), mostJobs)
				for job, x := range all {
					same(t, s.String(), "an answer", x, job)
				}
				l, _ = made(t, s.workers, s.jobs, s.room)
				if n := l.Play(d.picks(5000), d.roll(5000)); n > s.most() || l.Gone() != workers+2 || l.Outcome() == 0 {
					t.Fatalf("%v, cancelled: %d moves, %d gone, outcome %d", s, n, l.Gone(), l.Outcome())
				}
			}
		}
	}
}
