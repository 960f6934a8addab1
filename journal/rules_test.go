package journal_test

import (
	"fmt"
	"runtime"
	"slices"
	"sync"
	"testing"
	"time"

	"massif/api"
	"massif/journal"
	"massif/keep"
	"massif/pos"
)

// roomy is a list with spare room behind its length, in which other items stand, and all of that as it was.
func roomy[T any](l []T, more ...T) (list, all, was []T) {
	all = slices.Concat(l, more)
	return all[:len(l)], all, slices.Clone(all)
}

// Rule R3: leaves and bytes that are handed in are not changed, and what lies behind their length is neither read nor written.
func TestHandedInStays(t *testing.T) {
	p := newPair(t, 32, 1)
	for k := range 20 {
		for _, stop := range []int{-1, 0} {
			l, all, was := roomy(leaves(uint64(k), k), leaves(500, 9)...)
			p.batch(l, 3, stop)
			sameList(t, "Batch", "what was handed in", all, was)
			p.check()
		}
	}
	b := pairOf(t, 3, 1).b
	for n := range len(b) + 1 {
		list, all, was := roomy(b[:n], b[n:]...)
		for _, more := range [][]byte{nil, {0}, times(255, 20)} {
			if more != nil {
				list, all, was = roomy(b[:n], more...)
			}
			check(t, "with something behind", list)
			sameBytes(t, "Replay", "what was handed in", all, was)
		}
	}
}

// Rule R3: what was handed in is not kept: written over behind the call, it changes nothing.
func TestHandedInIsNotKept(t *testing.T) {
	p := newPair(t, 32, 1)
	for k := range 20 {
		l := leaves(uint64(k), k)
		p.batch(l, 3, -1)
		for i := range l {
			l[i] = leaf(far)
		}
		p.check()
	}
	b := slices.Clone(p.b)
	j, _, _ := journal.Replay(b)
	clear(b)
	goOn(t, "written over", j, p, 4, 30)
}

// Rules R3 and R4: Bytes and Ends may be written over, with their spare room, and appended to: that changes no later answer,
// and no other one.
func TestAnswersAreWrittenOver(t *testing.T) {
	p := newPair(t, 32, 1)
	spoil := func() {
		b, other := p.j.Bytes(), p.j.Bytes()
		ends, otherEnds := p.j.Ends(), p.j.Ends()
		_, _ = append(b, 1, 2, 3), append(ends, 1, 2, 3)
		clear(b[:cap(b)])
		clear(ends[:cap(ends)])
		sameBytes(t, "written over", "the other Bytes", other, p.b)
		sameList(t, "written over", "the other Ends", otherEnds, p.ends)
		clear(other[:cap(other)]) // the last ones that were answered
		clear(otherEnds[:cap(otherEnds)])
		p.check()
	}
	spoil()
	d := dice(7)
	for range 200 {
		p.move(&d)
		spoil()
	}
	p.j = taken(t, "replayed", p.b, len(p.b))
	spoil()
	for range 50 {
		p.move(&d)
		spoil()
	}
}

// Rule R4: what was answered stays what it was, whatever is done to the journal behind it.
func TestAnswersStay(t *testing.T) {
	p := newPair(t, 32, 1)
	d := dice(8)
	var all [][]byte
	var ends [][]int
	for range 300 {
		all, ends = append(all, p.j.Bytes()), append(ends, p.j.Ends())
		p.move(&d)
	}
	for i, b := range all {
		sameBytes(t, "what was answered", "Bytes", b, p.b[:len(b)])
		sameList(t, "what was answered", "Ends", ends[i], p.ends[:len(ends[i])])
		same(t, "what was answered", "the last of Ends", ends[i][len(ends[i])-1], len(b))
	}
}

// Rule R4: two journals in turns know nothing of each other; nor do two that were replayed from the same bytes, and the one
// that these are of.
func TestTwoInTurns(t *testing.T) {
	d := dice(12)
	p, q := newPair(t, 2, 1), newPair(t, 32, 0)
	for range 200 {
		p, q = q, p
		p.move(&d)
		q.check()
	}
	p.check()
	l := []*pair{p}
	for range 3 {
		x := read(t, p.b)
		l = append(l, &pair{t, "replayed", taken(t, "replayed", p.b, len(p.b)), x.k, slices.Clone(p.b), slices.Clone(p.ends)})
	}
	for range 200 {
		l[d.roll(4)].move(&d)
		for _, x := range l {
			x.check()
		}
	}
}

// great is a keep of so many leaves that no memory has all nodes, of which just the peaks live.
func great(t *testing.T, n uint64) *keep.Keep {
	t.Helper()
	places := pos.Peaks(n)
	k, e, _ := keep.From(32, 3, n, places, leaves(0, len(places)), nil)
	if e != api.OK {
		t.Fatalf("From of %d leaves is %v", n, e)
	}
	return k
}

// Promise 23.1 and rule R1: of a journal whose keep was changed beside it nothing is promised but that calls end and do not
// panic, Replay of its bytes, too.
func TestChangedBeside(t *testing.T) {
	changes := []func(k *keep.Keep){
		func(k *keep.Keep) { k.Append(leaf(1)) },
		func(k *keep.Keep) { k.Add([]byte("x")) },
		func(k *keep.Keep) { k.Install(leaves(3, 1), 1) },
		func(k *keep.Keep) { k.Install(leaves(3, 9), 5) },
		func(k *keep.Keep) { k.Pin(k.Size() - 1) },
		func(k *keep.Keep) { k.Unpin(k.Size() - 1) },
		func(k *keep.Keep) { k.Prune() },
		func(k *keep.Keep) { *k = keep.Keep{} },
		func(k *keep.Keep) { *k = *great(t, 1<<62) },
		func(k *keep.Keep) { *k = *great(t, 1<<62-1) },
		func(k *keep.Keep) { *k = *great(t, 1<<62-70) },
	}
	for seed := range dice(40) {
		d := seed + 50
		j, _ := journal.New(int(d.roll(33)), 1)
		for range 40 {
			if d.roll(3) == 0 {
				changes[d.roll(uint64(len(changes)))](j.Keep())
			}
			switch d.roll(5) {
			case 0:
				j.Append(leaf(4))
			case 1:
				j.Batch(leaves(6, int(d.roll(90))), 2, int(d.roll(4))-2)
			case 2:
				j.Pin(j.Keep().Size() - d.roll(3))
			case 3:
				j.Unpin(j.Keep().Size() - d.roll(3))
			case 4:
				j.Prune()
			}
			j.Ends()
			journal.Replay(j.Bytes())
		}
	}
}

// Rule R1: a journal that New did not make: its calls end and do not panic.
func TestNotMadeByNew(t *testing.T) {
	for range 2 {
		var j journal.Journal
		j.Ends()
		j.Bytes()
		j.Prune()
		j.Unpin(0)
		j.Append(leaf(1))
		j.Batch(leaves(1, 6), 2, -1)
		j.Pin(1)
		j.Prune()
		j.Ends()
		j.Keep().Root()
		journal.Replay(j.Bytes())
	}
}

// asked is how many bytes of memory a call asks for.
func asked(call func()) uint64 {
	var before, behind runtime.MemStats
	runtime.ReadMemStats(&before)
	call()
	runtime.ReadMemStats(&behind)
	return behind.TotalAlloc - before.TotalAlloc
}

// Rule R3: no room is asked for that the bytes that are there can't fill, whatever number of bytes a record is said to have.
func TestRoomAskedFor(t *testing.T) {
	ahead := behind(head(32, 3), records(appends(leaf(0)), pins(0))...)
	for _, x := range numbers() {
		for _, rest := range [][]byte{nil, {65}, {66}, times(66, 900)} {
			b := slices.Concat(ahead, groups(x), rest)
			if room := asked(func() { journal.Replay(b) }); room > 1<<16 {
				t.Errorf("of a record with %d bytes, of which %d are there, %d bytes were asked for", x, len(rest), room)
			}
		}
	}
	torn := behind(ahead, record(batches(leaves(0, 1<<16)...)...)...)
	torn = torn[:len(torn)-1]
	if room := asked(func() { journal.Replay(torn) }); room > 1<<16 {
		t.Errorf("of a great batch that is torn %d bytes were asked for", room)
	}
}

// settled is how many goroutines there are when those of earlier tests have gone.
func settled() int {
	time.Sleep(20 * time.Millisecond)
	return runtime.NumGoroutine()
}

// nobodyLeft waits, but not for long, till there are no more goroutines than before: one that has told its end may take a
// moment till it is counted no more.
func nobodyLeft(t *testing.T, before int) {
	t.Helper()
	for range 1000 {
		if runtime.NumGoroutine() <= before {
			return
		}
		time.Sleep(time.Millisecond)
	}
	t.Fatalf("%d goroutines are left", runtime.NumGoroutine()-before)
}

// Rule R4: goroutines of batches have ended when a call answers, cancelled or not, replayed or not.
func TestGoroutinesHaveEnded(t *testing.T) {
	before := settled()
	for _, stop := range []int{-1, 0, 1, 2, 5, 100} {
		for range 10 {
			p := newPair(t, 32, 3)
			p.append(leaf(1))
			p.batch(leaves(0, 900), 64, stop)
			p.batch(leaves(0, 1000), 3, stop)
			taken(t, "replayed", p.b, len(p.b))
		}
	}
	nobodyLeft(t, before)
}

// Rule R4: journals at the same time: each answers as it does alone.
func TestBeside(t *testing.T) {
	run := func(seed int) *pair {
		d := dice(seed)
		p := newPair(t, 1+seed%32, seed%4)
		for range 40 {
			p.move(&d)
		}
		return p
	}
	const many = 16
	var want, got [many][]byte
	for i := range many {
		want[i] = run(i).b
	}
	var ended sync.WaitGroup
	for i := range many {
		ended.Go(func() {
			j, _, _ := journal.Replay(run(i).j.Bytes())
			got[i] = j.Bytes()
		})
	}
	ended.Wait()
	for i := range many {
		sameBytes(t, fmt.Sprint("the journal ", i), "Bytes", got[i], want[i])
	}
}
