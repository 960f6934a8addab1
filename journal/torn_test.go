package journal_test

import (
	"fmt"
	"slices"
	"testing"

	"massif/api"
	"massif/journal"
)

// stands are a journal as it was behind the head and behind each record: pairs that go on apart.
func stands(t *testing.T, w, log int, calls ...func(p *pair)) []*pair {
	t.Helper()
	var l []*pair
	for n := range len(calls) + 1 {
		p := newPair(t, w, log)
		for _, call := range calls[:n] {
			call(p)
		}
		if len(l) == 0 || len(p.ends) > len(l[len(l)-1].ends) {
			l = append(l, p)
		}
	}
	return l
}

// story are calls of all kinds, some of which change nothing.
func story() []func(p *pair) {
	return []func(p *pair){
		func(p *pair) { p.prune() },
		func(p *pair) { p.append(leaf(0)) },
		func(p *pair) { p.pin(0) },
		func(p *pair) { p.pin(1) },
		func(p *pair) { p.batch(leaves(1, 5), 2, 1) },
		func(p *pair) { p.batch(leaves(1, 5), 2, -1) },
		func(p *pair) { p.pin(4) },
		func(p *pair) { p.prune() },
		func(p *pair) { p.prune() },
		func(p *pair) { p.unpin(0) },
		func(p *pair) { p.unpin(0) },
		func(p *pair) { p.batch(leaves(6, 130), 3, -1) },
		func(p *pair) { p.pin(133) },
		func(p *pair) { p.append(leaf(200)) },
		func(p *pair) { p.prune() },
		func(p *pair) { p.unpin(4) },
		func(p *pair) { p.prune() },
	}
}

// goOn does the same calls, drawn, to a journal that was replayed and to the pair that it is to answer like.
func goOn(t *testing.T, when string, j *journal.Journal, p *pair, seed, moves int) {
	t.Helper()
	d := dice(seed)
	p.j, p.when = j, when+", gone on"
	p.check()
	for range moves {
		p.move(&d)
	}
	p.check()
}

// Promise 23.7 and theorem W11: Bytes cut off anywhere: below the head there is no journal; from there on all records that
// are there whole are done, and nothing else.
func TestEachBeginning(t *testing.T) {
	l := stands(t, 3, 1, story()...)
	last := l[len(l)-1]
	b := last.j.Bytes()
	for n := range len(b) + 1 {
		when := fmt.Sprintf("%d of %d bytes", n, len(b))
		if n < 3 {
			refused(t, when, b[:n], api.ErrCut, 0)
			continue
		}
		at := slices.IndexFunc(last.ends, func(end int) bool { return end > n })
		if at < 0 {
			at = len(last.ends)
		}
		stand := l[at-1]
		j := taken(t, when, b[:n], last.ends[at-1])
		sameBytes(t, when, "Bytes", j.Bytes(), stand.b)
		sameList(t, when, "Ends", j.Ends(), last.ends[:at])
		sameKeep(t, when, j.Keep(), stand.k)
	}
}

// Promise 23.7 and theorem W11: at each of Ends, a byte below it and one above, the journal goes on like the one that it came
// from: the same calls have the same answers, and write the same bytes.
func TestBeginningsGoOn(t *testing.T) {
	for turn, w := range []int{1, 2, 32} {
		all := newPair(t, w, turn)
		for _, call := range story() {
			call(all)
		}
		for i, end := range all.ends {
			for off := -1; off <= 1; off++ {
				whole := i
				if off < 0 {
					whole--
				}
				if end+off > len(all.b) || whole < 0 {
					continue
				}
				when := fmt.Sprintf("the width %d, %d bytes from the end %d", w, off, i)
				j := taken(t, when, all.b[:end+off], all.ends[whole])
				goOn(t, when, j, stands(t, w, turn, story()...)[whole], 7*i+off+1, 25)
			}
		}
	}
}

// Promise 23.7: behind each call of journals that are drawn, what is replayed answers like the journal, all bytes taken; some
// go on with what was replayed.
func TestBack(t *testing.T) {
	for seed := range dice(40) {
		d := seed + 1000
		p := newPair(t, 1+int(d.roll(32)), int(d.roll(5)))
		for step := range 50 {
			p.when = fmt.Sprintf("run %d, step %d", seed, step)
			p.move(&d)
			j := taken(t, p.when, p.j.Bytes(), len(p.b))
			sameList(t, p.when, "Ends", j.Ends(), p.ends)
			sameKeep(t, p.when, j.Keep(), p.j.Keep())
			if seed%3 == 0 || seed%3 == 1 && step%10 == 9 {
				p.j = j
			}
		}
		p.check()
	}
}

// Promise 23.7 and theorem W11: a record that is torn, and what comes where it stood: the journal is replayed, goes on, and
// its bytes are those of what was whole and of what came.
func TestTornAndGoneOn(t *testing.T) {
	for seed := range dice(60) {
		d := seed + 3000
		p := newPair(t, 1+int(d.roll(32)), int(d.roll(3)))
		for turn := range 12 {
			for range 6 {
				p.move(&d)
			}
			if len(p.ends) < 3 {
				continue
			}
			whole := len(p.ends) - 1 - int(d.roll(2))
			cut := p.ends[whole]
			if whole < len(p.ends)-1 {
				cut += int(d.roll(uint64(p.ends[whole+1] - cut)))
			}
			when := fmt.Sprintf("run %d, turn %d, %d of %d bytes", seed, turn, cut, len(p.b))
			j := taken(t, when, p.b[:cut], p.ends[whole])
			p = &pair{t, when, j, read(t, p.b[:cut]).k, slices.Clone(p.b[:p.ends[whole]]), slices.Clone(p.ends[:whole+1])}
			p.check()
		}
	}
}

// Promise 23.8: what stands behind Bytes is read as records: it is done, or is torn, or is wrong, at a place that is not
// ahead of it.
func TestSomethingBehind(t *testing.T) {
	p := newPair(t, 2, 1)
	for _, call := range story() {
		call(p)
		n := len(p.b)
		for _, c := range []byte{0, 1, 2, 9, 33, 65, 66, 74, 80, 82, 85, 127, 128, 129, 161, 254, 255} {
			for _, more := range [][]byte{nil, {0}, {82}, times(c, 9), times(128, 9), {82, 0x8c, 0x25, 0x74, 0x89}} {
				tail := append([]byte{c}, more...)
				_, at, e := check(t, p.when, behind(p.b, tail...))
				if at < n || e == api.OK && at > n+len(tail) {
					t.Fatalf("behind %d bytes stand %x: %d, %v", n, tail, at, e)
				}
			}
		}
		one := record(appends(leaf(77))...)
		for cut := range len(one) {
			taken(t, "a torn record", behind(p.b, one[:cut]...), n)
		}
		taken(t, "a whole record", behind(p.b, one...), n+len(one))
		taken(t, "a whole record and a torn one", slices.Concat(p.b, one, one[:20]), n+len(one))
		taken(t, "two records", slices.Concat(p.b, one, one), n+2*len(one))
		refused(t, "a whole record and a wrong one", slices.Concat(p.b, one, []byte{0}), api.ErrArg, n+len(one))
		refused(t, "a wrong record", behind(p.b, record(84)...), api.ErrForm, n)
		if _, at, _ := check(t, "another journal", behind(p.b, p.b...)); at != n {
			t.Fatalf("behind %d bytes stand the same ones: %d", n, at)
		}
		refused(t, "the number 0", behind(p.b, 0), api.ErrArg, n)
	}
}

// Promise 23.7: many records, and many leaves with pins.
func TestManyRecords(t *testing.T) {
	p := newPair(t, 32, 5)
	for i := range uint64(3000) {
		p.append(leaf(i))
		if i%3 > 0 {
			p.pin(i - i%3)
		}
		if i%500 == 499 {
			p.prune()
		}
	}
	p.check()
	if len(p.ends) < 4000 {
		t.Fatalf("%d records: this test tells little", len(p.ends))
	}
	j := taken(t, "many", p.b, len(p.b))
	goOn(t, "many", j, p, 5, 30)
}
