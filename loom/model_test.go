package loom_test

import (
	"fmt"
	"slices"
	"testing"

	"massif/api"
	"massif/loom"
)

const (
	mostWorkers = api.MaxWorkers
	mostJobs    = api.MaxBatch
	least       = -1 << 63
	far         = 1<<63 - 1
)

// nothing is what an idle worker of the model holds.
const nothing = -1

// plain is a loom by the words of 13.1 to 13.4.
type plain struct {
	jobs, room    int
	next          int // the feeder's
	feederLeft    bool
	channel       []int
	shut          bool
	holds         []int // of each worker
	left          []bool
	collectorLeft bool
	cancelled     bool
	answers       []int
	outcome       int
	made, top     int
}

func newPlain(workers, jobs, room int) *plain {
	m := &plain{jobs: jobs, room: room, holds: slices.Repeat([]int{nothing}, workers), left: make([]bool, workers)}
	if jobs == 0 {
		m.collectorLeft, m.outcome = true, api.Whole
	}
	return m
}

func (m *plain) hasNext() bool { return !m.feederLeft && m.next < m.jobs }
func (m *plain) idle(w int) bool {
	return w >= 0 && !m.left[w] && m.holds[w] == nothing
}

// can is the move of a kind with a worker, Feeder or Collector, and whether it can be made; Put and Shut have Worker 0.
func (m *plain) can(kind, w int) (api.Move, bool) {
	switch kind {
	case api.Put:
		return api.Move{Kind: kind, Job: m.next}, w == 0 && m.hasNext() && len(m.channel) < m.room
	case api.Give:
		if m.room == 0 {
			return api.Move{Kind: kind, Worker: w, Job: m.next}, m.idle(w) && m.hasNext()
		}
		if len(m.channel) > 0 {
			return api.Move{Kind: kind, Worker: w, Job: m.channel[0]}, m.idle(w)
		}
		return api.Move{}, false
	case api.Shut:
		return api.Move{Kind: kind}, w == 0 && !m.feederLeft && m.next == m.jobs
	case api.Leave:
		return api.Move{Kind: kind, Worker: w}, m.idle(w) && m.shut && len(m.channel) == 0
	case api.Answer:
		if w < 0 || m.left[w] || m.holds[w] == nothing || m.collectorLeft {
			return api.Move{}, false
		}
		return api.Move{Kind: kind, Worker: w, Job: m.holds[w]}, true
	}
	return api.Move{Kind: kind, Worker: w}, m.cancelled && !m.hasLeft(w)
}

func (m *plain) hasLeft(w int) bool {
	switch w {
	case api.Feeder:
		return m.feederLeft
	case api.Collector:
		return m.collectorLeft
	}
	return m.left[w]
}

// moves are all that can be made, in the order of 13.3.
func (m *plain) moves() []api.Move {
	var l []api.Move
	for _, kind := range []int{api.Put, api.Give, api.Shut, api.Leave, api.Answer, api.Quit} {
		for w := api.Feeder; w < len(m.holds); w++ {
			if x, ok := m.can(kind, w); ok {
				l = append(l, x)
			}
		}
	}
	return l
}

// do makes a move.
func (m *plain) do(x api.Move) {
	m.made++
	switch x.Kind {
	case api.Put:
		m.channel = append(m.channel, x.Job)
		m.next++
	case api.Give:
		if m.room == 0 {
			m.next++
		} else {
			m.channel = m.channel[1:]
		}
		m.holds[x.Worker] = x.Job
	case api.Shut:
		m.shut, m.feederLeft = true, true
	case api.Leave:
		m.left[x.Worker] = true
	case api.Answer:
		m.holds[x.Worker] = nothing
		m.answers = append(m.answers, x.Job)
		if len(m.answers) == m.jobs {
			m.collectorLeft, m.outcome = true, api.Whole
		}
	case api.Quit:
		m.quit(x.Worker)
	}
	m.top = max(m.top, m.gauge())
}

func (m *plain) quit(w int) {
	switch w {
	case api.Feeder:
		m.shut, m.feederLeft = true, true
	case api.Collector:
		m.collectorLeft, m.outcome = true, api.None
	default:
		m.left[w] = true
	}
}

func (m *plain) gauge() int {
	n := 0
	for w, job := range m.holds {
		if job != nothing && !m.left[w] {
			n++
		}
	}
	return n
}

func (m *plain) gone() int {
	n := 0
	for w := api.Feeder; w < len(m.holds); w++ {
		if m.hasLeft(w) {
			n++
		}
	}
	return n
}

func (m *plain) clone() *plain {
	c := *m
	c.channel, c.holds, c.left, c.answers = slices.Clone(m.channel), slices.Clone(m.holds), slices.Clone(m.left), slices.Clone(m.answers)
	return &c
}

// play makes moves by the words of 13.5.
func (m *plain) play(picks []int, cancel int) int {
	for t := 0; ; t++ {
		m.cancelled = m.cancelled || t == cancel
		moves := m.moves()
		if len(moves) == 0 {
			return t
		}
		m.do(moves[place(picks, t, len(moves))])
	}
}

// place is where the t-th move stands among n.
func place(picks []int, t, n int) int {
	if t >= len(picks) {
		return 0
	}
	return (picks[t]%n + n) % n
}

// same holds one answer against what it should be.
func same[T comparable](t *testing.T, when, what string, got, want T) {
	t.Helper()
	if got != want {
		t.Fatalf("%s: %s is %v, want %v", when, what, got, want)
	}
}

func sameList[T comparable](t *testing.T, when, what string, got, want []T) {
	t.Helper()
	if !slices.Equal(got, want) {
		t.Fatalf("%s: %s is %v, want %v", when, what, got, want)
	}
}

// hold holds all that a loom tells against the model.
func hold(t *testing.T, when string, l *loom.Loom, m *plain) {
	t.Helper()
	sameList(t, when, "Moves", l.Moves(), m.moves())
	same(t, when, "Gauge", l.Gauge(), m.gauge())
	same(t, when, "Top", l.Top(), m.top)
	same(t, when, "Made", l.Made(), m.made)
	same(t, when, "Gone", l.Gone(), m.gone())
	sameList(t, when, "Answers", l.Answers(), m.answers)
	same(t, when, "Outcome", l.Outcome(), m.outcome)
}

// made is a loom and its model, both anew.
func made(t *testing.T, workers, jobs, room int) (*loom.Loom, *plain) {
	t.Helper()
	l, e := loom.New(workers, jobs, room)
	if e != api.OK || l == nil {
		t.Fatalf("New(%d, %d, %d) is %v, %v", workers, jobs, room, l, e)
	}
	return l, newPlain(workers, jobs, room)
}

// cancelIt stands for the cancel, where else the place of a move does.
const cancelIt = -1

// act makes the k-th move, or the cancel, in both.
func act(t *testing.T, when string, l *loom.Loom, m *plain, k int) {
	t.Helper()
	if k == cancelIt {
		same(t, when, "Cancel", l.Cancel(), api.OK)
		m.cancelled = true
		return
	}
	same(t, when, "Move", l.Move(k), api.OK)
	m.do(m.moves()[k])
}

// take makes the move that is told by what it is, in both; it must be there.
func take(t *testing.T, when string, l *loom.Loom, m *plain, x api.Move) {
	t.Helper()
	k := slices.Index(l.Moves(), x)
	if k < 0 {
		t.Fatalf("%s: %v can't be made, just %v", when, x, l.Moves())
	}
	act(t, when, l, m, k)
	hold(t, when, l, m)
}

// refused holds that a loom has no move with one of these places, that it refuses a cancel where it has been made, and
// that nothing of that has changed it.
func refused(t *testing.T, when string, l *loom.Loom, m *plain) {
	t.Helper()
	n := len(m.moves())
	for _, k := range []int{-1, -2, -n, -n - 1, least, n, n + 1, 2*n + 1, far} {
		if k < 0 || k >= n {
			same(t, when, fmt.Sprint("Move ", k), l.Move(k), api.ErrMove)
		}
	}
	if m.cancelled {
		same(t, when, "Cancel", l.Cancel(), api.ErrMove)
	}
	hold(t, when, l, m)
}

// shape is how a loom is made.
type shape struct{ workers, jobs, room int }

func (s shape) String() string {
	return fmt.Sprintf("%d workers, %d jobs, room %d", s.workers, s.jobs, s.room)
}

func (s shape) most() int { return loom.Most(s.workers, s.jobs, s.room) }

// shapes are all with at most so many workers, jobs and room.
func shapes(workers, jobs, room int) []shape {
	var l []shape
	for w := 1; w <= workers; w++ {
		for j := range jobs + 1 {
			for r := range room + 1 {
				l = append(l, shape{w, j, r})
			}
		}
	}
	return l
}

// dice are numbers in no plain order, the same ones each time.
type dice uint64

func (d *dice) roll(n int) int {
	*d = *d*6364136223846793005 + 1442695040888963407
	return int(*d>>33) % n
}

// picks are n of them, of either sign, small and great.
func (d *dice) picks(n int) []int {
	var l []int
	for range n {
		p := d.roll(1 << 30)
		switch d.roll(6) {
		case 0:
			p = -p
		case 1:
			p = least + p%100
		case 2:
			p = far - p%100
		case 3:
			p = p%8 - 4
		}
		l = append(l, p)
	}
	return l
}

// overwrite fills a list and its spare room.
func overwrite[T any](l []T, x T) {
	l = l[:cap(l)]
	for k := range l {
		l[k] = x
	}
}

// behind is a copy of a list that has something behind its length.
func behind[T any](l []T, more ...T) []T {
	return append(slices.Clone(l), more...)[:len(l)]
}
