package judge_test

import (
	"slices"
	"testing"

	"massif/api"
	"massif/judge"
)

// The examples of chapter 18.
func TestExamples(t *testing.T) {
	r, s := api.Hash{1}, api.Hash{2}
	a, b := api.Head{Size: 3, Root: r}, api.Head{Size: 3, Root: s}
	for _, heads := range [][]api.Head{{a, b}, {b, a}} {
		j := judge.New(32)
		for _, h := range heads {
			if e := j.See(h); e != api.OK {
				t.Errorf("See is %v", e)
			}
		}
		if got := j.Heads(); !slices.Equal(got, []api.Head{a, b}) {
			t.Errorf("Heads is %v", got)
		}
		if got := j.Forks(); !slices.Equal(got, []api.Fork{{Size: 3, A: r, B: s}}) {
			t.Errorf("Forks is %v", got)
		}
		if e := j.Link(a, api.Head{Size: 4, Root: leaf(4)}, nil); e != api.ErrHead {
			t.Errorf("Link to an unknown head is %v", e)
		}
		if !j.Leads(a, a) || j.Leads(a, b) {
			t.Errorf("Leads is %v, %v", j.Leads(a, a), j.Leads(a, b))
		}
	}
}

// Promises 18.1, 18.2: a judge that knows nothing, of each width.
func TestNothingIsKnown(t *testing.T) {
	for _, w := range widths() {
		p := newPair(t, w)
		if len(p.last.heads)+len(p.last.forks) > 0 || p.last.told {
			t.Errorf("a new judge of the width %d knows %v", w, p.last)
		}
		x := treeOf(t, w, leaves(0, 5))
		p.Link(linkOf(t, x, 0, 0), api.ErrHead)
		p.Link(linkOf(t, x, 3, 5), api.ErrHead)
		p.Link(link{}, api.ErrHead)
	}
}

// Promises 18.2, 18.4: the heads of one tree, of two that part, and of several, in each order.
func TestHeadsOfTrees(t *testing.T) {
	for _, w := range widths() {
		one := headsOf(t, treeOf(t, w, leaves(0, 9)))
		two := slices.Concat(one, headsOf(t, parting(t, w, 4, 9, 2)))
		four := slices.Concat(two, headsOf(t, parting(t, w, 0, 6, 3)), headsOf(t, parting(t, w, 6, 8, 4)))
		for _, heads := range [][]api.Head{one, two, four} {
			for _, l := range orders(heads) {
				seeing(t, w, l...)
			}
		}
	}
}

// Promises 18.1, 18.4: two trees that part behind 4 leaves are forks of all sizes from 5 on, and of no other.
func TestForksOfTwoTrees(t *testing.T) {
	x, y := treeOf(t, 32, leaves(0, 9)), parting(t, 32, 4, 9, 2)
	p := seeing(t, 32, slices.Concat(headsOf(t, x), headsOf(t, y))...)
	if len(p.last.heads) != 15 || len(p.last.forks) != 5 {
		t.Fatalf("%d heads, %d forks", len(p.last.heads), len(p.last.forks))
	}
	for k, f := range p.last.forks {
		n := uint64(k + 5)
		a, b := headAt(t, x, n).Root, headAt(t, y, n).Root
		if f != (api.Fork{Size: n, A: a, B: b}) && f != (api.Fork{Size: n, A: b, B: a}) {
			t.Errorf("the fork %d is %v", k, f)
		}
	}
}

// Promise 18.2: the bound of sizes; beyond it nothing becomes known.
func TestSizes(t *testing.T) {
	p := newPair(t, 32)
	for _, n := range []uint64{0, 1, 1 << 31, 1 << 32, 1<<53 + 1, most / 2, most - 1, most} {
		for _, r := range []api.Hash{{}, leaf(n)} {
			p.See(api.Head{Size: n, Root: r}, api.OK)
			p.See(api.Head{Size: n, Root: r}, api.OK)
		}
	}
	for _, n := range []uint64{most + 1, most + 2, most * 2, 1<<63 - 1, 1 << 63, 1<<63 + 1, far - 1, far} {
		for _, r := range []api.Hash{{}, leaf(n)} {
			h := api.Head{Size: n, Root: r}
			p.See(h, api.ErrSize)
			p.See(h, api.ErrSize)
			if p.j.Leads(h, h) {
				t.Errorf("a head of %d leaves leads to itself", n)
			}
		}
	}
	if len(p.last.heads) != 16 || len(p.last.forks) != 8 {
		t.Errorf("%d heads, %d forks", len(p.last.heads), len(p.last.forks))
	}
}

// Promise 18.2: a head that is seen again changes nothing, nor do the links to it and from it go.
func TestSeenAgain(t *testing.T) {
	for _, w := range widths() {
		x := treeOf(t, w, leaves(0, 7))
		p := seeing(t, w, headsOf(t, x)...)
		p.Link(linkOf(t, x, 2, 4), api.OK)
		p.Link(linkOf(t, x, 4, 7), api.OK)
		p.Link(linkOf(t, x, 4, 4), api.OK)
		for range 2 {
			for _, h := range headsOf(t, x) {
				p.See(h, api.OK)
			}
		}
		if !p.j.Leads(headAt(t, x, 2), headAt(t, x, 7)) {
			t.Error("the links are gone")
		}
	}
}

// Promises 18.1, 18.4: heads are others where one byte of the root is, whichever; they rise by the first byte that is
// another one, as a number from 0 to 255.
func TestUnlikeInOneByte(t *testing.T) {
	for at := range len(api.Hash{}) {
		var heads []api.Head
		for _, c := range []byte{0, 1, 127, 128, 255} {
			r := leaf(77)
			r[at] = c
			heads = append(heads, api.Head{Size: 5, Root: r})
		}
		for _, l := range orders(heads) {
			p := seeing(t, 1, l...)
			if !slices.Equal(p.last.heads, heads) || len(p.last.forks) != 10 {
				t.Fatalf("byte %d: Heads is %v, with %d forks", at, p.last.heads, len(p.last.forks))
			}
		}
	}
	early, late := api.Head{Size: 5, Root: api.Hash{0: 1, 31: 0}}, api.Head{Size: 5, Root: api.Hash{0: 0, 31: 9}}
	if p := seeing(t, 32, early, late); p.last.heads[0] != late || p.last.forks[0].A != late.Root {
		t.Error("the last byte counts more than the first one")
	}
}

// Promise 18.1: sizes count more than roots, as whole numbers.
func TestSizesCountFirst(t *testing.T) {
	var heads []api.Head
	for i, n := range []uint64{0, 1, 2, 255, 256, 1<<31 - 1, 1 << 31, 1<<32 - 1, 1 << 32, 1<<61 + 1, most - 1, most} {
		heads = append(heads, api.Head{Size: n, Root: api.Hash{byte(200 - i)}})
	}
	for _, l := range orders(heads) {
		if p := seeing(t, 32, l...); !slices.Equal(p.last.heads, heads) || len(p.last.forks) != 0 {
			t.Fatalf("Heads is %v, Forks %v", p.last.heads, p.last.forks)
		}
	}
}

// Promise 18.4: of a size with k heads there are k (k - 1) / 2 forks, and none across sizes.
func TestForksOfManyHeads(t *testing.T) {
	for k := range 9 {
		p := newPair(t, 32)
		for i := range k {
			p.See(api.Head{Size: 6, Root: leaf(uint64(i * 37 % 11))}, api.OK)
		}
		p.See(api.Head{Size: 5, Root: leaf(3)}, api.OK)
		p.See(api.Head{Size: 7, Root: leaf(3)}, api.OK)
		p.See(api.Head{Size: 7, Root: leaf(2)}, api.OK)
		if want := k*(k-1)/2 + 1; len(p.last.forks) != want {
			t.Errorf("of %d heads there are %d forks, want %d", k, len(p.last.forks), want)
		}
	}
}

// Promise 18.4: of hundreds of heads of two sizes.
func TestForksOfHundreds(t *testing.T) {
	const k = 300
	x := words{w: 32}
	j := judge.New(32)
	for i := range 2 * k {
		h := api.Head{Size: uint64(8 - i%2), Root: leaf(uint64(i * 7919))}
		if x.See(h) != api.OK || j.See(h) != api.OK {
			t.Fatalf("See of head %d", i)
		}
	}
	if got, want := j.Forks(), x.Forks(); !slices.Equal(got, want) || len(got) != k*(k-1) {
		t.Errorf("%d forks, or others", len(got))
	}
}

// full is a judge that knows as many heads as it can: those handed in, and others.
func full(t *testing.T, w int, heads ...api.Head) *judge.Judge {
	t.Helper()
	j := judge.New(w)
	for i := range api.MaxHeads {
		h := api.Head{Size: uint64(i) + 1<<20, Root: leaf(uint64(i))}
		if i < len(heads) {
			h = heads[i]
		}
		if e := j.See(h); e != api.OK {
			t.Fatalf("See of head %d is %v", i, e)
		}
	}
	return j
}

// Promise 18.2: as many heads as MaxHeads; one more is ErrLong, of a size that is none ErrSize, and one that is known OK.
func TestMostHeads(t *testing.T) {
	j := full(t, 32)
	heads := j.Heads()
	if len(heads) != api.MaxHeads {
		t.Fatalf("it knows %d heads", len(heads))
	}
	for range 2 {
		for _, h := range []api.Head{{}, {Size: 1 << 20}, {Size: most}, {Size: 1<<20 + 5, Root: leaf(6)}} {
			if e := j.See(h); e != api.ErrLong {
				t.Fatalf("See of one more is %v", e)
			}
			if e := j.Link(h, heads[0], nil); e != api.ErrHead || j.Leads(h, h) {
				t.Fatal("one more is known")
			}
		}
		for _, n := range []uint64{most + 1, far} {
			if e := j.See(api.Head{Size: n}); e != api.ErrSize {
				t.Fatalf("See of size %d is %v", n, e)
			}
		}
		for _, h := range heads {
			if e := j.See(h); e != api.OK || !j.Leads(h, h) {
				t.Fatalf("See of one that is known is %v", e)
			}
		}
		if !slices.Equal(j.Heads(), heads) || len(j.Forks()) != 0 {
			t.Fatal("it knows other heads now")
		}
	}
}

// Promise 18.2: one less than MaxHeads, seen again and again, leaves room for one, and for no more.
func TestSeenAgainTakesNoRoom(t *testing.T) {
	j := judge.New(32)
	for range 2 {
		for i := range api.MaxHeads - 1 {
			if e := j.See(api.Head{Size: 9, Root: leaf(uint64(i))}); e != api.OK {
				t.Fatalf("See is %v", e)
			}
		}
	}
	for range 2 {
		if e := j.See(api.Head{Size: 10}); e != api.OK {
			t.Errorf("See of the last one is %v", e)
		}
	}
	if e := j.See(api.Head{Size: 11}); e != api.ErrLong {
		t.Errorf("See of one more is %v", e)
	}
}
