package journal_test

import (
	"fmt"
	"slices"
	"testing"

	"massif/api"
	"massif/journal"
)

// The examples of chapter 23.
func TestExamples(t *testing.T) {
	j, e := journal.New(2, 3)
	same(t, "the examples", "New", e, api.OK)
	sameBytes(t, "the examples", "Bytes", j.Bytes(), []byte{0x4a, 2, 3})
	sameList(t, "the examples", "Ends", j.Ends(), []int{3})
	same(t, "the examples", "Prune", j.Prune(), 0)
	same(t, "the examples", "Pin", j.Pin(0), api.ErrIndex)
	sameBytes(t, "the examples", "Bytes", j.Bytes(), []byte{0x4a, 2, 3})
	a := leaf(7)
	same(t, "the examples", "Append", j.Append(a), 0)
	sameList(t, "the examples", "Ends", j.Ends(), []int{3, 41})
	b := j.Bytes()
	sameBytes(t, "the examples", "Bytes ahead of the check", b[:37], slices.Concat([]byte{0x4a, 2, 3, 0x21, 0x41}, a[:]))
	sameBytes(t, "the examples", "Bytes", b, behind([]byte{0x4a, 2, 3}, record(appends(a)...)...))
	taken(t, "the examples", []byte{0x4a, 2, 3}, 3)
	refused(t, "the examples", []byte{0x4a, 2}, api.ErrCut, 0)
	refused(t, "the examples", []byte{0x4a, 0}, api.ErrArg, 0)
	refused(t, "the examples", []byte{0x4b}, api.ErrKind, 0)
	refused(t, "the examples", behind([]byte{0x4a, 2, 3}, record(0x52)...), api.ErrForm, 3)
}

// Promises 23.1 and 23.3: New refuses what chapter 11's New does; the head tells the width as it counts, and the log.
func TestNew(t *testing.T) {
	widths := []int{least, -1 << 32, -1, 0, 33, 64, 127, 128, 256, 257, 1<<32 + 1, most}
	for w := range 35 {
		widths = append(widths, w)
	}
	for _, w := range widths {
		for log := range 17 {
			p := newPair(t, w, log)
			same(t, p.when, "how long the head is", len(p.b), 3)
			same(t, p.when, "the journal that was replayed", taken(t, p.when, p.j.Bytes(), 3).Keep().Width(), min(max(w, 1), 32))
			p.append(leaf(1))
			p.append(leaf(2))
			p.check()
		}
		for _, log := range []int{least, -1 << 32, -17, -1, 17, 18, 32, 127, 128, 256, 272, 1 << 32, 1<<32 + 3, most} {
			if j, e := journal.New(w, log); j != nil || e != api.ErrArg {
				t.Fatalf("New(%d, %d) is %v, %v", w, log, j, e)
			}
		}
	}
}

// Promises 23.2 to 23.5: many calls in turns, every answer, and all that can be asked behind each.
func TestTurns(t *testing.T) {
	for seed := range dice(60) {
		d := seed
		p := newPair(t, 1+int(d.roll(32)), int(d.roll(4)))
		for step := range 60 {
			p.when = fmt.Sprintf("run %d, step %d", seed, step)
			p.move(&d)
			p.check()
		}
	}
}

// Promises 23.2 to 23.5: each row of few calls, from a journal of no leaf on and from one with some.
func TestEachRow(t *testing.T) {
	calls := []func(p *pair){
		func(p *pair) { p.append(leaf(9)) },
		func(p *pair) { p.batch(leaves(20, 2), 2, -1) },
		func(p *pair) { p.pin(0) },
		func(p *pair) { p.pin(1) },
		func(p *pair) { p.unpin(0) },
		func(p *pair) { p.prune() },
	}
	const long = 5
	for row := range 6 * 6 * 6 * 6 * 6 {
		p := newPair(t, 32, 1)
		if row%2 == 0 {
			p.batch(leaves(50, 3), 1, -1)
		}
		p.when = fmt.Sprint("the row ", row)
		for i, left := 0, row; i < long; i, left = i+1, left/6 {
			calls[left%6](p)
		}
		p.check()
		taken(t, p.when, p.b, len(p.b))
	}
}

// Promise 23.3: what changes nothing is not written.
func TestNothingIsWritten(t *testing.T) {
	p := newPair(t, 32, 1)
	nothing := func() {
		t.Helper()
		ends := len(p.ends)
		n := p.k.Size()
		p.batch(nil, 1, -1)
		p.batch([]api.Hash{}, 64, 0)
		p.batch(leaves(0, 3)[:0], 2, 7)
		p.batch(nil, 0, -1)
		p.batch(leaves(0, 9), 0, -1)
		p.batch(leaves(0, 9), 65, -1)
		p.batch(leaves(0, 9), 2, 0)
		same(t, "nothing", "Pin", p.pin(n), api.ErrIndex)
		same(t, "nothing", "Pin", p.pin(far), api.ErrIndex)
		same(t, "nothing", "Unpin", p.unpin(n), api.ErrIndex)
		same(t, "nothing", "Unpin", p.unpin(far), api.ErrIndex)
		for i := range n {
			if p.k.Pins(i) == 0 {
				same(t, "nothing", "Unpin", p.unpin(i), api.ErrPin)
			}
		}
		same(t, "nothing", "how many records there are", len(p.j.Ends()), ends)
		p.check()
	}
	nothing()
	same(t, "of no leaf", "Prune", p.prune(), 0)
	nothing()
	p.append(leaf(0))
	same(t, "of one leaf", "Prune", p.prune(), 0)
	nothing()
	p.batch(leaves(1, 6), 2, -1)
	p.pin(1)
	nothing()
	same(t, "of seven leaves", "Prune", p.prune(), 6)
	same(t, "again", "Prune", p.prune(), 0)
	nothing()
	same(t, "pruned", "Pin", p.pin(3), api.ErrPruned)
	same(t, "pruned", "Pin", p.pin(2), api.ErrPruned)
	same(t, "pruned", "Unpin", p.unpin(1), api.OK)
	same(t, "pruned", "Unpin", p.unpin(1), api.ErrPin)
	nothing()
	same(t, "pruned", "how many records there are", len(p.ends), 6)
}

// Promise 23.4: indices and lengths of one byte, of two and of three.
func TestNumbers(t *testing.T) {
	p := newPair(t, 32, 6)
	p.batch(leaves(0, 1<<14+2), 4, -1)
	for _, i := range []uint64{0, 1, 127, 128, 129, 255, 256, 1<<14 - 1, 1 << 14, 1<<14 + 1} {
		for range 2 {
			same(t, "numbers", "Pin", p.pin(i), api.OK)
		}
		same(t, "numbers", "Unpin", p.unpin(i), api.OK)
	}
	p.prune()
	p.check()
	for _, k := range []int{1, 2, 3, 4, 5, 510, 511, 512, 513} {
		n := len(p.b)
		p.batch(leaves(uint64(k), k), 3, -1)
		same(t, "numbers", "how long a record is", len(p.b)-n, len(groups(uint64(32*k+1)))+32*k+5)
	}
	p.append(leaf(3))
	p.check()
	j := taken(t, "numbers", p.b, len(p.b))
	sameList(t, "numbers", "Pinned", j.Keep().Pinned(), p.k.Pinned())
}

// Promise 23.4: leaves are written as they are, whatever their bytes behind the width are.
func TestLeavesAsTheyAre(t *testing.T) {
	for w := 1; w < 33; w++ {
		p := newPair(t, w, 0)
		for _, l := range []api.Hash{{}, {31: 255}, api.Hash(times(255, 32)), leaf(far)} {
			p.append(l)
			p.batch([]api.Hash{l, leaf(4), l}, 2, -1)
			p.check()
		}
		taken(t, p.when, p.b, len(p.b))
	}
}

// Promise 23.5: Ends rise from the head on, one length for each record, and the last is that of Bytes.
func TestEnds(t *testing.T) {
	p := pairOf(t, 32, 3)
	ends := p.j.Ends()
	for i, end := range ends {
		if i > 0 && end <= ends[i-1] {
			t.Fatalf("Ends is %v", ends)
		}
	}
	same(t, "Ends", "the first", ends[0], 3)
	same(t, "Ends", "the last", ends[len(ends)-1], len(p.j.Bytes()))
	sameList(t, "Ends", "all", ends, []int{3, 41, 48, 150, 157, 164, 170, 4337, 4345, 4352, 4390, 4396, 4404})
}

// Promise 23.1: Keep is the keep itself: what calls of the journal do is seen there, and each time it is the same one.
func TestKeepItself(t *testing.T) {
	j, _ := journal.New(32, 2)
	k := j.Keep()
	for n := range uint64(20) {
		j.Append(leaf(n))
		same(t, "the keep", "Size", k.Size(), n+1)
		same(t, "the keep", "Pin", j.Pin(n), api.OK)
		same(t, "the keep", "Pins", k.Pins(n), 1)
		same(t, "the keep", "which it is", j.Keep(), k)
	}
	same(t, "done there", "Unpin", k.Unpin(3), api.OK)
	same(t, "done there", "Unpin of the journal", j.Unpin(3), api.ErrPin)
	ends := len(j.Ends())
	same(t, "done there", "Append", k.Append(leaf(50)), 20)
	same(t, "done there", "Append of the journal", j.Append(leaf(51)), 21)
	same(t, "done there", "how many records there are", len(j.Ends()), ends+1)
	r, _, _ := journal.Replay(j.Bytes()[:41])
	k = r.Keep()
	r.Append(leaf(1))
	same(t, "of a replayed journal", "which it is", r.Keep(), k)
	same(t, "of a replayed journal", "Size", k.Size(), 2)
}
