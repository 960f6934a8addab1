package pool_test

import (
	"fmt"
	"runtime"
	"slices"
	"testing"
	"time"

	"massif/api"
	"massif/mmr"
	"massif/pool"
)

const (
	least = -1 << 63
	far   = 1<<63 - 1
)

// call is what is handed in.
type call struct {
	w             int
	parts         [][]api.Hash
	workers, stop int
}

func (c call) String() string {
	return fmt.Sprintf("Grow(%d, parts of %v leaves, %d, %d)", c.w, lengths(c.parts), c.workers, c.stop)
}

// said is what is answered.
type said struct {
	lists   [][]api.Hash
	outcome int
	e       api.Errno
}

func (c call) ask() said {
	lists, outcome, e := pool.Grow(c.w, c.parts, c.workers, c.stop)
	return said{lists, outcome, e}
}

// plain is what the words of 14.1 say of a call, each part alone and in turn.
func (c call) plain() said {
	if c.workers < 1 || c.workers > 64 {
		return said{e: api.ErrArg}
	}
	leaves := 0
	for _, part := range c.parts {
		leaves += len(part)
	}
	if leaves > 65536 {
		return said{e: api.ErrLong}
	}
	for _, part := range c.parts {
		if !isPower(len(part)) {
			return said{e: api.ErrCount}
		}
	}
	if c.stop >= 0 && c.stop < len(c.parts) {
		return said{outcome: api.None}
	}
	return said{lists: grown(c.w, c.parts), outcome: api.Whole}
}

func isPower(n int) bool {
	for h := range 20 {
		if n == 1<<h {
			return true
		}
	}
	return false
}

// grown is what chapter 6's Grow says of each part.
func grown(w int, parts [][]api.Hash) [][]api.Hash {
	var lists [][]api.Hash
	for _, part := range parts {
		nodes, _ := mmr.Grow(w, part)
		lists = append(lists, nodes)
	}
	return lists
}

// check asks a call, and holds the answer against the model's.
func check(t *testing.T, c call) {
	t.Helper()
	alike(t, c.String(), c.ask(), c.plain())
}

// alike holds two answers against each other; nil and empty lists are one.
func alike(t *testing.T, when string, got, want said) {
	t.Helper()
	same(t, when, "the error", got.e, want.e)
	same(t, when, "the outcome", got.outcome, want.outcome)
	sameLists(t, when, got.lists, want.lists)
}

func sameLists(t *testing.T, when string, got, want [][]api.Hash) {
	t.Helper()
	same(t, when, "how many lists there are", len(got), len(want))
	for i := range want {
		if !slices.Equal(got[i], want[i]) {
			t.Fatalf("%s: list %d is another one (%d nodes, want %d)", when, i, len(got[i]), len(want[i]))
		}
	}
}

func same[A comparable](t *testing.T, when, what string, got, want A) {
	t.Helper()
	if got != want {
		t.Fatalf("%s: %s is %v, want %v", when, what, got, want)
	}
}

func lengths(parts [][]api.Hash) []int {
	var l []int
	for i, part := range parts {
		if i == 12 {
			return append(l, -len(parts)) // so many in all
		}
		l = append(l, len(part))
	}
	return l
}

// leaf is the n-th of leaves that are all unlike one another.
func leaf(n int) api.Hash {
	x := api.Hash{31: byte(n * 7)}
	for i := range 4 {
		x[i] = byte(n >> (8 * i))
	}
	return x
}

// partsOf has a part of each of these lengths, all leaves unlike one another.
func partsOf(lengths ...int) [][]api.Hash {
	var parts [][]api.Hash
	n := 0
	for _, length := range lengths {
		part := make([]api.Hash, length)
		for i := range part {
			part[i] = leaf(n)
			n++
		}
		parts = append(parts, part)
	}
	return parts
}

// copied is parts in memory of their own.
func copied(parts [][]api.Hash) [][]api.Hash {
	var l [][]api.Hash
	for _, part := range parts {
		l = append(l, slices.Clone(part))
	}
	return l
}

// behind is l with something behind its length.
func behind[T any](l []T, more ...T) []T { return slices.Concat(l, more)[:len(l)] }

// overwrite writes over all of a list, and behind it, as far as it has room.
func overwrite[T any](l []T, with T) {
	l = l[:cap(l)]
	for i := range l {
		l[i] = with
	}
}

// settled is how many goroutines there are when those of earlier tests have gone: as long as some go, the count may be off.
func settled() int {
	time.Sleep(20 * time.Millisecond)
	return runtime.NumGoroutine()
}

// nobodyLeft waits, but not for long, till there are no more goroutines than before: one that has told its end may take a
// moment till it is counted no more.
func nobodyLeft(t *testing.T, when string, before int) {
	t.Helper()
	for range 1000 {
		if runtime.NumGoroutine() <= before {
			return
		}
		time.Sleep(time.Millisecond)
	}
	t.Fatalf("%s: %d goroutines are left", when, runtime.NumGoroutine()-before)
}

// dice are numbers that are drawn by a rule, the same in every run.
type dice uint64

func (d *dice) roll(n int) int {
	*d = *d*6364136223846793005 + 1442695040888963407
	return int(uint64(*d>>33) % uint64(n))
}

// parts draws some parts of up to 1 << high leaves each.
func (d *dice) parts(most, high int) [][]api.Hash {
	var l []int
	for range d.roll(most + 1) {
		l = append(l, 1<<d.roll(high+1))
	}
	return partsOf(l...)
}
