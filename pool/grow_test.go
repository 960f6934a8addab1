package pool_test

import (
	"fmt"
	"slices"
	"testing"

	"massif/api"
	"massif/hash"
	"massif/pool"
)

// Promise 14.1: the examples of the chapter.
func TestExamples(t *testing.T) {
	a, b, c := leaf(1), leaf(2), leaf(3)
	parts := [][]api.Hash{{a, b}, {c}}
	whole := said{lists: [][]api.Hash{{a, b, hash.Node(32, a, b)}, {c}}, outcome: api.Whole}
	for _, x := range []struct {
		call call
		want said
	}{
		{call{32, parts, 2, -1}, whole},
		{call{32, parts, 2, 1}, said{outcome: api.None}},
		{call{32, parts, 2, 2}, whole},
		{call{32, nil, 1, 0}, said{outcome: api.Whole}},
		{call{32, [][]api.Hash{{a, b, c}}, 2, -1}, said{e: api.ErrCount}},
		{call{32, parts, 0, -1}, said{e: api.ErrArg}},
	} {
		alike(t, x.call.String(), x.call.ask(), x.want)
		alike(t, x.call.String()+" by the model", x.call.plain(), x.want)
	}
}

// Promise 14.1: of each part, in their order, what Grow of it alone says, by each number of workers.
func TestEachNumberOfWorkers(t *testing.T) {
	parts := partsOf(2, 1, 32, 8, 8, 1, 128, 4, 1, 64, 16, 1, 1, 2, 4)
	for workers := 1; workers <= api.MaxWorkers; workers++ {
		check(t, call{1 + workers%32, parts, workers, -1})
	}
}

// Promise 14.1: each width, and those below 1 and above 32, which count as 1 and 32.
func TestEachWidth(t *testing.T) {
	parts := partsOf(8, 2, 1, 4, 16, 2)
	for w := -2; w <= 35; w++ {
		check(t, call{w, parts, 3, -1})
	}
	for w, counts := range map[int]int{least: 1, -1: 1, 0: 1, 33: 32, 256: 32, 257: 32, far: 32} {
		c := call{w, parts, 3, -1}
		alike(t, c.String(), c.ask(), call{counts, parts, 3, -1}.plain())
	}
}

// Promise 14.1: each stop, with fewer workers than parts, as many, and more.
func TestEachStop(t *testing.T) {
	unlike := partsOf(1, 16, 2, 8, 1, 32, 4, 4, 2)
	for _, parts := range [][][]api.Hash{nil, {}, partsOf(1), partsOf(64), partsOf(4, 2), unlike} {
		for workers := 1; workers <= 12; workers++ {
			for stop := -3; stop <= len(parts)+3; stop++ {
				check(t, call{5, parts, workers, stop})
			}
			for _, stop := range []int{least, -1 << 32, 1 << 16, 1 << 32, far} {
				check(t, call{5, parts, workers, stop})
			}
		}
	}
}

// Promise 14.1: no parts at all are Whole, whatever stop is.
func TestNoParts(t *testing.T) {
	for _, parts := range [][][]api.Hash{nil, {}, partsOf(3, 2)[:0]} {
		for _, workers := range []int{1, 2, api.MaxWorkers} {
			for _, stop := range []int{least, -1, 0, 1, far} {
				c := call{32, parts, workers, stop}
				alike(t, c.String(), c.ask(), said{outcome: api.Whole})
			}
		}
	}
}

// Promise 14.1: more parts than workers, up to as many as there can be.
func TestManyParts(t *testing.T) {
	for _, n := range []int{63, 64, 65, 1000} {
		parts := partsOf(slices.Repeat([]int{2}, n)...)
		for _, workers := range []int{1, 2, 63, 64} {
			for _, stop := range []int{-1, 0, 1, n / 2, n - 1, n, n + 1} {
				check(t, call{32, parts, workers, stop})
			}
		}
	}
	parts := partsOf(slices.Repeat([]int{1}, api.MaxBatch)...)
	for _, stop := range []int{-1, 0, api.MaxBatch - 1, api.MaxBatch} {
		check(t, call{32, parts, api.MaxWorkers, stop})
	}
}

// Promise 14.1: leaves are taken as they are, whatever their bytes behind the width are; parts may be alike, or be the
// same list, or lie over one another.
func TestPartsThatShare(t *testing.T) {
	l := partsOf(16)[0]
	full := slices.Repeat([]api.Hash{leaf(-1)}, 8)
	parts := [][]api.Hash{l, l, l[:8], l[4:8], full, l[15:], full[:2], full[1:2], l}
	for _, w := range []int{1, 2, 31, 32} {
		for _, workers := range []int{1, 4, 9} {
			check(t, call{w, parts, workers, -1})
		}
	}
}

// Promise 14.1: drawn parts, workers and stops, with a part now and then that is none.
func TestDrawn(t *testing.T) {
	for seed := range dice(600) {
		d := seed
		parts := d.parts(20, 6)
		if d.roll(6) == 0 {
			parts = append(parts, partsOf(d.roll(20))...)
		}
		c := call{d.roll(40) - 3, parts, 1 + d.roll(api.MaxWorkers), d.roll(2*len(parts)+4) - len(parts)/2 - 2}
		if d.roll(20) == 0 {
			c.workers = d.roll(200) - 67
		}
		check(t, c)
	}
}

// Promise 14.1: workers from 1 to MaxWorkers.
func TestWorkers(t *testing.T) {
	for _, parts := range [][][]api.Hash{nil, partsOf(1), partsOf(4, 2, 1)} {
		for _, workers := range []int{least, -1 << 32, -64, -1, 0, 65, 66, 128, 256, 1<<32 + 1, far} {
			c := call{32, parts, workers, -1}
			alike(t, c.String(), c.ask(), said{e: api.ErrArg})
		}
		for _, workers := range []int{1, 2, 63, 64} {
			c := call{32, parts, workers, -1}
			alike(t, c.String(), c.ask(), said{lists: grown(32, parts), outcome: api.Whole})
		}
	}
}

// Promise 14.1: parts that have together just MaxBatch leaves, and those with one more, or many more.
func TestTogether(t *testing.T) {
	most := slices.Repeat([]int{1 << 12}, 15) // 1 << 12 below MaxBatch
	for _, x := range []struct {
		lengths []int
		want    api.Errno
	}{
		{[]int{1 << 16}, api.OK},
		{[]int{1 << 15, 1 << 15}, api.OK},
		{[]int{1 << 15, 1 << 14, 1 << 14}, api.OK},
		{append(slices.Clone(most), 1<<12), api.OK},
		{[]int{1 << 16, 1}, api.ErrLong},
		{[]int{1, 1 << 16}, api.ErrLong},
		{[]int{1 << 15, 1 << 15, 1}, api.ErrLong},
		{[]int{1 << 15, 1, 1 << 15}, api.ErrLong},
		{append(slices.Clone(most), 1<<12, 1), api.ErrLong},
		{[]int{1 << 17}, api.ErrLong},
		{[]int{1<<16 + 1}, api.ErrLong},
		{[]int{1<<16 - 1, 1}, api.ErrCount},
		{[]int{1<<16 - 1}, api.ErrCount},
	} {
		parts := partsOf(x.lengths...)
		for _, stop := range []int{-1, 0} {
			c := call{1, parts, 4, stop}
			same(t, c.String(), "the error by the model", c.plain().e, x.want)
			check(t, c)
		}
	}
}

// Promise 14.1: one list that stands in parts so often that its leaves are counted beyond every number.
func TestTogetherBeyondNumbers(t *testing.T) {
	part := partsOf(1 << 16)[0]
	for _, n := range []int{2, 1 << 15, 1 << 16} { // in 32 bits the last ones are below 0, and 0
		c := call{32, slices.Repeat([][]api.Hash{part}, n), 2, -1}
		alike(t, c.String(), c.ask(), said{e: api.ErrLong})
	}
}

// Promise 14.1: a part without leaves, of one leaf, of 2^h leaves, of one fewer and one more; alone, first, amid others
// and last.
func TestCounts(t *testing.T) {
	lengths := []int{0, 1, 2, 3, 4, 5, 6, 7, 8, 9, 10, 12, 24, 96, 127, 128, 129, 1023, 1024, 1025, 1<<14 - 1, 1<<14 + 1}
	for _, n := range lengths {
		want := api.ErrCount
		if isPower(n) {
			want = api.OK
		}
		for _, l := range [][]int{{n}, {n, 4, 1}, {4, n, 1}, {4, 1, n}} {
			for _, workers := range []int{1, 3} {
				for stop := -1; stop <= len(l); stop++ {
					c := call{2, partsOf(l...), workers, stop}
					same(t, c.String(), "the error by the model", c.plain().e, want)
					check(t, c)
				}
			}
		}
	}
	for _, parts := range [][][]api.Hash{{nil}, {{}}, {nil, {}}, {{leaf(1)}, nil}, {{}, {leaf(1)}}} {
		c := call{32, parts, 2, -1}
		alike(t, c.String(), c.ask(), said{e: api.ErrCount})
	}
}

// Promise 14.1 and rule R2: where several errors apply, the first of ErrArg, ErrLong and ErrCount is the answer, whatever
// stop is; beside it there is no list, and the outcome is 0.
func TestFirstError(t *testing.T) {
	long, count, both := partsOf(1<<16, 1), partsOf(4, 3, 1), partsOf(3, 1<<16)
	others := [][][]api.Hash{both, partsOf(1<<16, 0, 1), partsOf(0, 1<<16, 1), partsOf(1<<16+1, 3)}
	for stop := -1; stop <= 4; stop++ {
		for _, workers := range []int{-1, 0, api.MaxWorkers + 1} {
			for _, parts := range append(others, nil, long, count, partsOf(2)) {
				c := call{32, parts, workers, stop}
				alike(t, c.String(), c.ask(), said{e: api.ErrArg})
			}
		}
		for _, parts := range append(others, long) {
			c := call{32, parts, 1, stop}
			alike(t, c.String(), c.ask(), said{e: api.ErrLong})
		}
		c := call{32, count, 1, stop}
		alike(t, c.String(), c.ask(), said{e: api.ErrCount})
	}
}

// Promise 14.1 and rule R4: the same call again and again has the same answer, whatever was asked between.
func TestAgain(t *testing.T) {
	parts := partsOf(8, 1, 2, 32, 4, 1, 16)
	for stop := -1; stop <= len(parts); stop++ {
		c := call{32, parts, 4, stop}
		want := c.plain()
		for i := range 100 {
			alike(t, fmt.Sprint(c, " the time ", i), c.ask(), want)
			pool.Grow(i, parts[:i%8], i, i%5)
		}
	}
}
