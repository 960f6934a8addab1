package sync_test

import (
	"math"
	"testing"

	"massif/api"
	"massif/hash"
	"massif/mmr"
	"massif/sync"
)

// The examples of chapter 17, in their order.
func TestExamples(t *testing.T) {
	a, b, c, d := leaf(1), leaf(2), leaf(3), leaf(4)
	x := treeOf(t, 32, []api.Hash{a, b, c})
	r := x.Root()
	p := newPair(t, 32, 3)
	if n, h, ok := p.r.Want(); p.r.Size() != 0 || n != 0 || h != (api.Hash{}) || ok {
		t.Errorf("New: Size is %d, Want %d, %x, %v", p.r.Size(), n, h, ok)
	}
	p.Aim(3, r, bytesOf(t, x, 0, 3), api.OK)
	if n, h, ok := p.r.Want(); n != 3 || h != r || !ok {
		t.Errorf("Want is %d, %x, %v", n, h, ok)
	}
	p.Feed([]api.Hash{a}, 2, api.OK)
	p.Feed([]api.Hash{b, c}, 0, api.OK)
	if p.r.Size() != 3 || p.r.Root() != r {
		t.Errorf("behind the aim: Size is %d, Root %x", p.r.Size(), p.r.Root())
	}
	p.Feed([]api.Hash{a}, 0, api.ErrStage)
	p.Drop(api.ErrStage)
	p.Aim(3, r, bytesOf(t, x, 3, 3), api.OK)
	if _, _, ok := p.r.Want(); ok {
		t.Error("Want of an aim that it is at is true")
	}
	p = newPair(t, 32, 3)
	p.Aim(3, r, bytesOf(t, x, 0, 3), api.OK)
	p.Feed([]api.Hash{a, b, c, d}, 0, api.ErrLong)
	p.Feed([]api.Hash{a, b, d}, 0, api.ErrRoot)
	if _, _, ok := p.r.Want(); p.r.Size() != 0 || ok {
		t.Errorf("behind another root: Size is %d, Want %v", p.r.Size(), ok)
	}
}

// Promise 17.1: New's errors are those of chapter 6; beside one there is no replica.
func TestNewRefused(t *testing.T) {
	for _, w := range []int{math.MinInt, -1, 0, 1, 32, 33, math.MaxInt} {
		for _, log := range []int{math.MinInt, -17, -2, -1, 17, 18, 32, 64, 1 << 40, math.MaxInt} {
			if _, e := mmr.New(w, log); e != api.ErrArg {
				t.Fatalf("mmr.New(%d, %d) is %v", w, log, e)
			}
			if r, e := sync.New(w, log); r != nil || e != api.ErrArg {
				t.Errorf("New(%d, %d) is %v, %v", w, log, r, e)
			}
		}
	}
}

// Promise 17.1: of every log and width a replica without leaves, that aims at nothing.
func TestNewIsEmpty(t *testing.T) {
	for log := 0; log <= api.MaxLog; log++ {
		for _, w := range []int{math.MinInt, -1, 0, 1, 2, 16, 31, 32, 33, math.MaxInt} {
			p := newPair(t, w, log)
			if p.r.Size() != 0 || p.r.Root() != hash.Root(w, 0, api.Hash{}) {
				t.Fatalf("New(%d, %d) has the size %d, the root %x", w, log, p.r.Size(), p.r.Root())
			}
			p.Drop(api.ErrStage)
			p.Feed(nil, 0, api.ErrStage)
			p.Feed([]api.Hash{}, 0, api.ErrStage)
			p.Feed(leaves(0, 1), 0, api.ErrStage)
		}
	}
}

// Promise 17.1: a width below 1 counts as 1, one above 32 as 32: heads of the one are those of the other.
func TestWidths(t *testing.T) {
	for _, x := range [][2]int{{math.MinInt, 1}, {-1, 1}, {0, 1}, {33, 32}, {math.MaxInt, 32}} {
		tree := treeOf(t, x[1], leaves(0, 11))
		p := newPair(t, x[0], 2)
		for _, n := range []uint64{1, 4, 11} {
			p.reach(tree, n)
		}
	}
	for w := 1; w < 32; w++ {
		tree := treeOf(t, w+1, leaves(0, 5))
		p := newPair(t, w, 2)
		p.Aim(5, tree.Root(), bytesOf(t, tree, 0, 5), api.ErrRoot)
	}
}
