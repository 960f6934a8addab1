package loom_test

import (
	"fmt"
	"slices"
	"testing"

	"massif/api"
)

// Rule R2: what is refused changes nothing, now or later: two looms with the same moves, of which the one is asked for
// wrong ones all the time, stay alike.
func TestRefusedChangesNothing(t *testing.T) {
	for seed := range dice(100) {
		d := seed
		s := shape{1 + d.roll(5), d.roll(8), d.roll(3)}
		l, m := made(t, s.workers, s.jobs, s.room)
		other, _ := made(t, s.workers, s.jobs, s.room)
		cancel := d.roll(2 * s.most())
		for at := 0; len(m.moves()) > 0; at++ {
			refused(t, s.String(), l, m)
			alike(t, s.String(), l, other)
			if at == cancel {
				act(t, s.String(), l, m, cancelIt)
				other.Cancel()
				continue
			}
			k := d.roll(len(m.moves()))
			act(t, s.String(), l, m, k)
			other.Move(k)
		}
		refused(t, s.String(), l, m)
		alike(t, s.String(), l, other)
	}
}

// Rule R3: lists that are answered are new: written over, their spare room too, they change nothing, now or later; nor do
// two answers share anything.
func TestAnswersAreNew(t *testing.T) {
	wrong := api.Move{Kind: 77, Worker: 88, Job: 99}
	for seed := range dice(100) {
		d := seed
		s := shape{1 + d.roll(5), d.roll(12), d.roll(3)}
		l, m := made(t, s.workers, s.jobs, s.room)
		cancel := d.roll(2 * s.most())
		for at := 0; len(m.moves()) > 0; at++ {
			moves, answers := l.Moves(), l.Answers()
			overwrite(l.Moves(), wrong)
			overwrite(l.Answers(), 77)
			sameList(t, s.String(), "Moves beside others", moves, m.moves())
			sameList(t, s.String(), "Answers beside others", answers, m.answers)
			hold(t, s.String(), l, m)
			wasMoves, wasAnswers := slices.Clone(moves), slices.Clone(answers)
			if at == cancel {
				act(t, s.String(), l, m, cancelIt)
			} else {
				act(t, s.String(), l, m, d.roll(len(moves)))
			}
			sameList(t, s.String(), "Moves that were told ahead", moves, wasMoves)
			sameList(t, s.String(), "Answers that were told ahead", answers, wasAnswers)
			overwrite(moves, wrong)
			overwrite(answers, 77)
			hold(t, s.String(), l, m)
		}
	}
}

// Rule R3: what a play has gathered can be written over, too; picks that are handed in stay as they are, are not read
// behind their length, and not kept.
func TestPicksAreNotKept(t *testing.T) {
	for seed := range dice(400) {
		d := seed
		s := shape{1 + d.roll(5), d.roll(9), d.roll(3)}
		picks := d.picks(d.roll(s.most() + 3))
		cancel := d.roll(s.most()+4) - 2
		more := d.picks(s.most())
		room := behind(picks, more...)
		l, m := made(t, s.workers, s.jobs, s.room)
		same(t, s.String(), "Play", l.Play(room, cancel), m.play(picks, cancel))
		sameList(t, s.String(), "what was handed in", room[:len(picks)+len(more)], append(slices.Clone(picks), more...))
		hold(t, s.String(), l, m)
		overwrite(room, 5)
		overwrite(l.Answers(), 77)
		hold(t, s.String(), l, m)
		same(t, s.String(), "Play again", l.Play(nil, -1), 0)
		l.Cancel()
		for _, x := range room[:cap(room)] {
			same(t, s.String(), "what was handed in", x, 5)
		}
		hold(t, s.String(), l, m)
	}
}

// Rule R3: no picks and nil picks are one.
func TestNoPicks(t *testing.T) {
	for _, s := range shapes(2, 3, 2) {
		for cancel := -1; cancel <= s.most(); cancel++ {
			a, m := made(t, s.workers, s.jobs, s.room)
			b, _ := made(t, s.workers, s.jobs, s.room)
			same(t, s.String(), "Play", a.Play(nil, cancel), m.play(nil, cancel))
			same(t, s.String(), "Play", b.Play([]int{}, cancel), m.made)
			hold(t, s.String(), a, m)
			alike(t, s.String(), a, b)
		}
	}
}

// Rule R4: looms in turns have nothing to do with one another, made alike or not.
func TestLoomsInTurns(t *testing.T) {
	for seed := range dice(100) {
		d := seed
		s := shape{1 + d.roll(4), d.roll(8), d.roll(3)}
		a, ofA := made(t, s.workers, s.jobs, s.room)
		b, ofB := made(t, s.workers, s.jobs, s.room)
		c, ofC := made(t, 1+d.roll(4), d.roll(8), d.roll(3))
		for at := range 40 {
			when := fmt.Sprintf("%v, run %d, turn %d", s, seed, at)
			if n := len(ofA.moves()); n > 0 {
				act(t, when, a, ofA, d.roll(n))
			}
			hold(t, when, b, ofB)
			hold(t, when, c, ofC)
			if n := len(ofB.moves()); n > 0 && at%2 == 0 {
				act(t, when, b, ofB, d.roll(n))
			}
			if at == 7 {
				act(t, when, b, ofB, cancelIt)
			}
			if n := len(ofC.moves()); n > 0 && at%3 == 0 {
				act(t, when, c, ofC, d.roll(n))
			}
			hold(t, when, a, ofA)
		}
		same(t, "in turns", "Play", c.Play(nil, 1), ofC.play(nil, 1))
		hold(t, "in turns", a, ofA)
		hold(t, "in turns", b, ofB)
		hold(t, "in turns", c, ofC)
	}
}
