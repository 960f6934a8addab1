package batch_test

import (
	"fmt"
	"math/bits"
	"runtime"
	"slices"
	"testing"
	"time"

	"massif/api"
	"massif/batch"
	"massif/keep"
	"massif/loom"
)

const (
	most  = uint64(api.MaxLeaves)
	least = -1 << 63
	far   = 1<<63 - 1
)

// leaf is the n-th of leaves that are all unlike one another; it has bytes behind every width but the greatest.
func leaf(n int) api.Hash {
	x := api.Hash{30: 9, 31: byte(n * 7)}
	for i := range 4 {
		x[i] = byte(n >> (8 * i))
	}
	return x
}

// leaves are k of them, from leaf(from) on.
func leaves(from, k int) []api.Hash {
	l := make([]api.Hash, k)
	for i := range l {
		l[i] = leaf(from + i)
	}
	return l
}

// of is a keep of the leaves leaf(0), .., leaf(n - 1).
func of(t *testing.T, w, log, n int) *keep.Keep {
	t.Helper()
	k, e := keep.New(w, log)
	if e != api.OK {
		t.Fatalf("keep.New(%d, %d) is %v", w, log, e)
	}
	for _, l := range leaves(0, n) {
		k.Append(l)
	}
	return k
}

// over is a forest over a keep.
func over(t *testing.T, k *keep.Keep, workers int) *batch.Forest {
	t.Helper()
	f, e := batch.New(k, workers)
	if e != api.OK || f == nil {
		t.Fatalf("New(.., %d) is %v, %v", workers, f, e)
	}
	return f
}

// again is another keep like k, from what lives of it and its pins.
func again(t *testing.T, k *keep.Keep) *keep.Keep {
	t.Helper()
	places := k.Live()
	var nodes []api.Hash
	for _, p := range places {
		h, _ := k.Node(p)
		nodes = append(nodes, h)
	}
	pins := map[uint64]int{}
	for _, i := range k.Pinned() {
		pins[i] = k.Pins(i)
	}
	x, e, at := keep.From(k.Width(), k.Log(), k.Size(), places, nodes, pins)
	if e != api.OK {
		t.Fatalf("From of a keep's own is %v, %d", e, at)
	}
	return x
}

// great is a keep of n leaves of which just the peaks live, each of them any hash.
func great(t *testing.T, w int, n uint64) *keep.Keep {
	t.Helper()
	var places []uint64
	var nodes []api.Hash
	for rest := n; rest != 0; {
		h := bits.Len64(rest) - 1
		rest -= 1 << h
		behind := n - rest // so many leaves are ahead of the end of this peak
		places = append(places, 2*behind-uint64(bits.OnesCount64(behind))-1)
		nodes = append(nodes, leaf(1000+h))
	}
	k, e, at := keep.From(w, 2, n, places, nodes, nil)
	if e != api.OK {
		t.Fatalf("From of %d leaves is %v, %d", n, e, at)
	}
	return k
}

// one appends leaves one by one; the answer is their events.
func one(k *keep.Keep, leaves []api.Hash) []api.Event {
	var events []api.Event
	for _, l := range leaves {
		events = append(events, api.Event{Size: k.Size(), Leaf: l, Peaks: k.Peaks()})
		k.Append(l)
	}
	return events
}

// parts is into how many parts k leaves behind n others are cut: at each leaf the greatest tree that begins there and
// does not reach beyond the last one.
func parts(n uint64, k int) int {
	count := 0
	for left := uint64(k); left > 0; count++ {
		size := uint64(1)
		for n%(2*size) == 0 && 2*size <= left {
			size *= 2
		}
		n, left = n+size, left-size
	}
	return count
}

// said is what a batch is answered with.
type said struct {
	outcome int
	events  []api.Event
	e       api.Errno
}

// call is a batch: by Append with a stop, or by Play.
type call struct {
	leaves []api.Hash
	stop   int
	play   bool
	room   int
	picks  []int
	cancel int
}

func (c call) String() string {
	if c.play {
		return fmt.Sprintf("Play(%d leaves, %d, %v, %d)", len(c.leaves), c.room, c.picks, c.cancel)
	}
	return fmt.Sprintf("Append(%d leaves, %d)", len(c.leaves), c.stop)
}

func (c call) ask(f *batch.Forest) said {
	var s said
	if c.play {
		s.outcome, s.events, s.e = f.Play(c.leaves, c.room, c.picks, c.cancel)
	} else {
		s.outcome, s.events, s.e = f.Append(c.leaves, c.stop)
	}
	return s
}

// plain does to k what the words of 15.2 to 15.4 say of a call on a forest over it that is open and has so many workers.
func (c call) plain(k *keep.Keep, workers int) said {
	switch {
	case len(c.leaves) > 65536:
		return said{e: api.ErrLong}
	case uint64(len(c.leaves))+k.Size() > most:
		return said{e: api.ErrSize}
	case c.play && (c.room < 0 || c.room > 65536):
		return said{e: api.ErrArg}
	}
	if c.how(parts(k.Size(), len(c.leaves)), workers) == api.None {
		return said{outcome: api.None}
	}
	return said{outcome: api.Whole, events: one(k, c.leaves)}
}

// how is the outcome of a call that has so many jobs.
func (c call) how(jobs, workers int) int {
	if c.play {
		l, _ := loom.New(workers, jobs, c.room)
		l.Play(c.picks, c.cancel)
		return l.Outcome()
	}
	if c.stop >= 0 && c.stop < jobs {
		return api.None
	}
	return api.Whole
}

// check asks a call of a forest over k, does the same to the keep twin by the words, and holds both the answers and the
// keeps against each other.
func check(t *testing.T, when string, f *batch.Forest, k, twin *keep.Keep, workers int, c call) said {
	t.Helper()
	when = fmt.Sprintf("%s: %v at %d", when, c, twin.Size())
	got, want := c.ask(f), c.plain(twin, workers)
	alike(t, when, got, want)
	sameKeep(t, when, k, twin)
	return got
}

// alike holds two answers against each other.
func alike(t *testing.T, when string, got, want said) {
	t.Helper()
	same(t, when, "the error", got.e, want.e)
	same(t, when, "the outcome", got.outcome, want.outcome)
	sameEvents(t, when, got.events, want.events)
}

func sameEvents(t *testing.T, when string, got, want []api.Event) {
	t.Helper()
	same(t, when, "the number of events", len(got), len(want))
	for i := range want {
		if got[i].Size != want[i].Size || got[i].Leaf != want[i].Leaf || !slices.Equal(got[i].Peaks, want[i].Peaks) {
			t.Fatalf("%s: event %d is %v, want %v", when, i, got[i], want[i])
		}
	}
}

// same holds two answers against each other.
func same[A comparable](t *testing.T, when, what string, got, want A) {
	t.Helper()
	if got != want {
		t.Fatalf("%s: %s is %v, want %v", when, what, got, want)
	}
}

// sameList holds two lists against each other; nil and empty ones are one.
func sameList[A comparable](t *testing.T, when, what string, got, want []A) {
	t.Helper()
	if !slices.Equal(got, want) {
		t.Fatalf("%s: %s is %v, want %v", when, what, got, want)
	}
}

// sameKeep holds all that can be asked of two keeps, changing nothing, against each other; of ProveMany some lists.
func sameKeep(t *testing.T, when string, k, want *keep.Keep) {
	t.Helper()
	same(t, when, "Size", k.Size(), want.Size())
	same(t, when, "Width", k.Width(), want.Width())
	same(t, when, "Log", k.Log(), want.Log())
	same(t, when, "Chunks", k.Chunks(), want.Chunks())
	same(t, when, "Root", k.Root(), want.Root())
	sameList(t, when, "Peaks", k.Peaks(), want.Peaks())
	sameList(t, when, "Live", k.Live(), want.Live())
	sameList(t, when, "Pinned", k.Pinned(), want.Pinned())
	n := want.Size()
	for _, p := range places(n) {
		got, e := k.Node(p)
		if h, wantE := want.Node(p); got != h || e != wantE {
			t.Fatalf("%s: Node(%d) is %x, %v, want %x, %v", when, p, got, e, h, wantE)
		}
	}
	for _, i := range indices(n) {
		sameLeaf(t, when, k, want, i)
	}
	sameMany(t, when, k, want, nil)
	sameMany(t, when, k, want, k.Pinned())
}

// places are those that are looked at in a keep of n leaves: all, where these are few.
func places(n uint64) []uint64 {
	l := []uint64{1<<63 - 2, 1<<63 - 1, 1 << 63, ^uint64(0)}
	if n <= 100 {
		for p := range 2*n + 1 {
			l = append(l, p)
		}
		return l
	}
	for p := range uint64(100) {
		l = append(l, p, 2*n-p)
	}
	return l
}

// indices are those that are looked at in a keep of n leaves: all, where these are few.
func indices(n uint64) []uint64 {
	l := []uint64{most - 1, most, most + 1, ^uint64(0)}
	if n <= 100 {
		for i := range n + 2 {
			l = append(l, i)
		}
		return l
	}
	for i := range uint64(8) {
		l = append(l, i, n+1-i)
	}
	return l
}

// sameLeaf holds the pins and the proofs of a leaf, and the proof of the prefix ahead of it.
func sameLeaf(t *testing.T, when string, k, want *keep.Keep, i uint64) {
	t.Helper()
	if k.Pins(i) != want.Pins(i) {
		t.Fatalf("%s: Pins(%d) is %d, want %d", when, i, k.Pins(i), want.Pins(i))
	}
	p, e := k.Prove(i)
	if q, wantE := want.Prove(i); e != wantE || p.Size != q.Size || p.Index != q.Index || !slices.Equal(p.Nodes, q.Nodes) {
		t.Fatalf("%s: Prove(%d) is %v, %v, want %v, %v", when, i, p, e, q, wantE)
	}
	a, e := k.ProvePrefix(i)
	if b, wantE := want.ProvePrefix(i); e != wantE || a.Size != b.Size || !slices.Equal(a.Nodes, b.Nodes) {
		t.Fatalf("%s: ProvePrefix(%d) is %v, %v, want %v, %v", when, i, a, e, b, wantE)
	}
	sameMany(t, when, k, want, []uint64{i / 2, i})
}

func sameMany(t *testing.T, when string, k, want *keep.Keep, index []uint64) {
	t.Helper()
	p, e := k.ProveMany(index)
	if q, wantE := want.ProveMany(index); e != wantE || p.Size != q.Size || !slices.Equal(p.Index, q.Index) || !slices.Equal(p.Nodes, q.Nodes) {
		t.Fatalf("%s: ProveMany(%v) is %v, %v, want %v, %v", when, index, p, e, q, wantE)
	}
}

// move does a drawn thing to two keeps, by the calls of keeps that change something, and holds the answers against each
// other.
func move(t *testing.T, when string, k, twin *keep.Keep, d *dice) {
	t.Helper()
	i := uint64(d.roll(int(min(twin.Size(), 40)) + 1))
	switch d.roll(7) {
	case 0:
		same(t, when, "Append", k.Append(leaf(int(i))), twin.Append(leaf(int(i))))
	case 1:
		data := []byte{byte(i)}
		same(t, when, "Add", k.Add(data), twin.Add(data))
	case 2, 3:
		same(t, when, "Pin", k.Pin(i), twin.Pin(i))
	case 4:
		same(t, when, "Unpin", k.Unpin(i), twin.Unpin(i))
	case 5:
		same(t, when, "Prune", k.Prune(), twin.Prune())
	case 6: // a leaf at an even size makes no parent
		if twin.Size()%2 == 0 {
			same(t, when, "Install", k.Install(leaves(int(i), 1), 1), twin.Install(leaves(int(i), 1), 1))
		}
	}
}

// goOn does the same things to two keeps that should answer alike from there on.
func goOn(t *testing.T, when string, k, twin *keep.Keep, seed int) {
	t.Helper()
	d := dice(seed)
	for range 8 {
		move(t, when+", gone on", k, twin, &d)
	}
	sameKeep(t, when+", gone on", k, twin)
}

// behind is l with something behind its length.
func behind[T any](l []T, more ...T) []T { return slices.Concat(l, more)[:len(l)] }

// overwrite writes over all of a list, and behind it, as far as it has room.
func overwrite[T any](l []T, with T) {
	l = l[:cap(l)]
	for i := range l {
		l[i] = with
	}
}

// copied are events in memory of their own.
func copied(events []api.Event) []api.Event {
	l := slices.Clone(events)
	for i := range l {
		l[i].Peaks = slices.Clone(l[i].Peaks)
	}
	return l
}

// settled is how many goroutines there are when those of earlier tests have gone: as long as some go, the count may be off.
func settled() int {
	time.Sleep(20 * time.Millisecond)
	return runtime.NumGoroutine()
}

// nobodyLeft waits, but not for long, till there are no more goroutines than before: one that has told its end may take a
// moment till it is counted no more.
func nobodyLeft(t *testing.T, when string, before int) {
	t.Helper()
	for range 1000 {
		if runtime.NumGoroutine() <= before {
			return
		}
		time.Sleep(time.Millisecond)
	}
	t.Fatalf("%s: %d goroutines are left", when, runtime.NumGoroutine()-before)
}

// dice are numbers that are drawn by a rule, the same in every run.
type dice uint64

func (d *dice) roll(n int) int {
	*d = *d*6364136223846793005 + 1442695040888963407
	return int(uint64(*d>>33) % uint64(n))
}

// picks draws some, of either sign.
func (d *dice) picks(n int) []int {
	l := make([]int, n)
	for i := range l {
		l[i] = d.roll(200) - 100
	}
	return l
}

// call draws a batch of up to so many leaves, told from a number on, that is not refused.
func (d *dice) call(from, most int) call {
	c := call{leaves: leaves(from, d.roll(most+1))}
	if d.roll(2) == 0 {
		c.stop = d.roll(9) - 4
		return c
	}
	c.play, c.room, c.picks, c.cancel = true, d.roll(4), d.picks(d.roll(30)), d.roll(24)-12
	return c
}
