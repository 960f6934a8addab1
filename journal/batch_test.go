package journal_test

import (
	"fmt"
	"testing"

	"massif/api"
)

// Promise 23.2: numbers of workers that are none are refused ahead of all else.
func TestBatchWorkers(t *testing.T) {
	many := leaves(0, 1<<16+1)
	for _, workers := range []int{least, -1 << 32, -64, -1, 0, 65, 66, 128, 256, 257, 1 << 32, 1<<32 + 1, most} {
		p := newPair(t, 32, 1)
		for _, l := range [][]api.Hash{nil, many[:1], many[:7], many[:1<<16], many} {
			for _, stop := range []int{-1, 0, 9} {
				outcome, e := p.batch(l, workers, stop)
				same(t, fmt.Sprint(workers, " workers"), "the outcome", outcome, 0)
				same(t, fmt.Sprint(workers, " workers"), "the error", e, api.ErrArg)
			}
		}
		p.check()
	}
	for workers := 1; workers <= 64; workers++ {
		p := newPair(t, 32, 1)
		p.append(many[0])
		for k := range 12 {
			same(t, p.when, "the outcome", must(p.batch(many[k:2*k], workers, -1)), api.Whole)
			p.batch(many[:k], workers, 1)
		}
		if _, e := p.batch(many, workers, -1); e != api.ErrLong {
			t.Fatalf("%d workers: a batch of too many leaves is %v", workers, e)
		}
		p.check()
	}
}

func must(outcome int, e api.Errno) int { return outcome }

// Promises 23.2 and 23.3: each stop with each small batch behind each small size: Whole is written, None is not.
func TestBatchStops(t *testing.T) {
	for n := range 9 {
		for k := range 10 {
			for _, stop := range []int{least, -2, -1, 0, 1, 2, 3, 4, 5, 6, most} {
				p := newPair(t, 3, 1)
				for i := range n {
					p.append(leaf(uint64(i)))
				}
				p.batch(leaves(90, k), 2, stop)
				p.check()
				p.batch(leaves(70, 2), 1, -1)
				p.check()
			}
		}
	}
}

// Promises 23.2 to 23.5 and rule R4: by any number of workers the bytes are the same, and so is the keep.
func TestBatchByAnyWorkers(t *testing.T) {
	one := newPair(t, 32, 2)
	for k := range 40 {
		one.batch(leaves(uint64(k*100), k), 1, -1)
	}
	for _, workers := range []int{2, 3, 8, 63, 64} {
		p := newPair(t, 32, 2)
		for k := range 40 {
			p.batch(leaves(uint64(k*100), k), workers, -1)
		}
		p.check()
		sameBytes(t, "by other workers", "Bytes", p.j.Bytes(), one.b)
	}
}

// Promises 23.2 to 23.6: the greatest batch is done and written, and read back; one leaf more is refused, and nothing of it
// is written.
func TestGreatestBatch(t *testing.T) {
	l := leaves(5, 1<<16+1)
	p := newPair(t, 2, 10)
	p.append(leaf(1))
	if outcome, e := p.batch(l, 8, -1); outcome != 0 || e != api.ErrLong {
		t.Fatalf("too many leaves: %d, %v", outcome, e)
	}
	p.check()
	same(t, "the greatest batch", "the outcome", must(p.batch(l[:1<<16], 8, 0)), api.None)
	p.check()
	same(t, "the greatest batch", "the outcome", must(p.batch(l[1:], 8, -1)), api.Whole)
	same(t, "the greatest batch", "how long the record is", p.ends[2]-p.ends[1], 4+1+32<<16+4)
	p.append(leaf(2))
	p.check()
	taken(t, "the greatest batch", p.b, len(p.b))
	for _, cut := range []int{1, 2, 37, 38, 39, 40, 41, 42, 1 << 10, 1 << 20, 1 << 21} {
		at := p.ends[2]
		if cut > 38 { // more than the last leaf's record has
			at = p.ends[1]
		}
		taken(t, fmt.Sprint("the greatest batch, without ", cut, " bytes"), p.b[:len(p.b)-cut], at)
	}
}
