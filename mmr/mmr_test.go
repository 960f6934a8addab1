package mmr_test

import (
	"slices"
	"testing"

	"massif/api"
	"massif/hash"
	"massif/mmr"
)

// Promises 6.4 and 6.6: the examples.
func TestTreeExamples(t *testing.T) {
	a, b, c := h(1), h(2), h(3)
	x := grown(t, 32, 4, []api.Hash{a, b, c})
	p := hash.Node(32, a, b)
	if x.Size() != 3 || !slices.Equal(x.Peaks(), []api.Hash{p, c}) {
		t.Errorf("Size and Peaks are %d, %x", x.Size(), x.Peaks())
	}
	if got, e := x.Node(2); got != p || e != api.OK {
		t.Errorf("Node(2) is %x, %v", got, e)
	}
	if got, e := x.Node(4); got != (api.Hash{}) || e != api.ErrPlace {
		t.Errorf("Node(4) is %x, %v", got, e)
	}
	if got, e := x.Old(2); got != hash.Root(32, 2, p) || e != api.OK {
		t.Errorf("Old(2) is %x, %v", got, e)
	}
	if got, e := x.Old(4); got != (api.Hash{}) || e != api.ErrSize {
		t.Errorf("Old(4) is %x, %v", got, e)
	}
}

// Promise 6.3: which logs there are, of every width.
func TestNew(t *testing.T) {
	for _, w := range []int{-1 << 62, -1, 0, 1, 2, 31, 32, 33, 1 << 62} {
		for _, log := range []int{-1 << 62, -2, -1, api.MaxLog + 1, api.MaxLog + 2, 64, 1 << 62} {
			if x, e := mmr.New(w, log); x != nil || e != api.ErrArg {
				t.Errorf("New(%d, %d) is %v, %v", w, log, x, e)
			}
		}
		for log := range api.MaxLog + 1 {
			x := made(t, w, log)
			hold(t, x, plain{w: w}, "at the beginning")
			holdOld(t, x, plain{w: w})
		}
	}
}

// Promise 6.3: the store is one with that log.
func TestNewStore(t *testing.T) {
	for log := range api.MaxLog + 1 {
		x := grown(t, 1, log, some(0, 40))
		n := int(x.Store().Len())
		if got, want := x.Store().Chunks(), (n+1<<log-1)>>log; got != want {
			t.Errorf("log %d: %d nodes in %d chunks, want %d", log, n, got, want)
		}
	}
}

// Promise 6.3: a width below 1 is 1, one above 32 is 32.
func TestWidth(t *testing.T) {
	for w := -40; w <= 80; w++ {
		x, y := made(t, w, 0), made(t, min(max(w, 1), 32), 0)
		if got, want := x.Width(), min(max(w, 1), 32); got != want {
			t.Errorf("Width of %d is %d", w, got)
		}
		for i := range byte(5) {
			x.Add([]byte{i})
			y.Add([]byte{i})
		}
		if x.Root() != y.Root() {
			t.Errorf("width %d: the root is not that of the width that it counts as", w)
		}
	}
}

// Promises 6.4, 6.6, 6.8 and 6.9: each size, behind Append, held against the forest that its leaves make.
func TestAppend(t *testing.T) {
	for _, w := range []int{0, 1, 2, 8, 31, 32, 33} {
		for _, log := range []int{0, 1, 5, api.MaxLog} {
			x, m := made(t, w, log), plain{w: w}
			for i := range 70 {
				if got := x.Append(h(i)); got != uint64(i) {
					t.Fatalf("w %d: Append is %d, want %d", w, got, i)
				}
				m.leaves = append(m.leaves, h(i))
				hold(t, x, m, "behind Append")
			}
			holdOld(t, x, m)
		}
	}
}

// Promises 6.4 and 6.9: some hundred leaves; Old of every size is what Root was.
func TestAppendHundreds(t *testing.T) {
	x, m := made(t, 32, 4), plain{w: 32}
	roots := []api.Hash{x.Root()}
	for i := range 530 {
		x.Append(h(i))
		m.leaves = append(m.leaves, h(i))
		roots = append(roots, x.Root())
		if i%16 == 3 || i > 500 {
			hold(t, x, m, "behind hundreds")
		}
	}
	for n, want := range roots {
		if got, e := x.Old(uint64(n)); got != want || e != api.OK {
			t.Fatalf("Old(%d) is %x, %v, want %x", n, got, e, want)
		}
	}
	holdOld(t, x, m)
}

// Promises 6.4 and 6.8: Add is Append of the data's hash.
func TestAdd(t *testing.T) {
	for _, w := range []int{-1, 1, 4, 32} {
		x, m := made(t, w, 2), plain{w: w}
		for i := range 66 {
			data := slices.Repeat([]byte{byte(i)}, i)
			if i%3 == 2 { // and in turns with Append
				x.Append(h(i))
				m.leaves = append(m.leaves, h(i))
			} else if got := x.Add(data); got != uint64(i) {
				t.Fatalf("w %d: Add is %d, want %d", w, got, i)
			} else {
				m.leaves = append(m.leaves, hash.Leaf(w, data))
			}
			hold(t, x, m, "behind Add")
		}
		holdOld(t, x, m)
	}
	x, y := made(t, 32, 0), made(t, 32, 0)
	x.Add(nil)
	y.Add([]byte{})
	if x.Root() != y.Root() || x.Root() != (plain{32, []api.Hash{hash.Leaf(32, nil)}}).root() {
		t.Error("Add of nil and of an empty list are not one")
	}
}

// Rule R4: two trees, by turns, have nothing in common.
func TestTwoTrees(t *testing.T) {
	x, y := made(t, 32, 3), made(t, 2, 3)
	mx, my := plain{w: 32}, plain{w: 2}
	var d dice = 5
	for i := range 150 {
		if d.next(2) == 0 {
			x.Append(h(i))
			mx.leaves = append(mx.leaves, h(i))
		} else {
			y.Append(h(i))
			my.leaves = append(my.leaves, h(i))
		}
		hold(t, x, mx, "the one of two")
		hold(t, y, my, "the other of two")
	}
	x.Store().Sweep(nil)
	hold(t, y, my, "behind a sweep of the other's store")
	holdOld(t, y, my)
}

// full is a tree that says it has n leaves, of which none has a node.
func full(t *testing.T, n uint64) *mmr.Tree {
	t.Helper()
	x := made(t, 32, 0)
	x.SetSize(n)
	return x
}

// Promise 6.4: where there are MaxLeaves leaves nothing is done.
func TestAppendToFull(t *testing.T) {
	x := full(t, most)
	for range 3 {
		if got := x.Append(h(1)); got != most {
			t.Errorf("Append is %d", got)
		}
		if got := x.Add([]byte{1}); got != most {
			t.Errorf("Add is %d", got)
		}
	}
	if x.Size() != most || x.Store().Len() != 0 {
		t.Errorf("Size is %d, with %d nodes", x.Size(), x.Store().Len())
	}
	x = full(t, most-1) // the last leaf makes 62 parents
	if got := x.Append(h(1)); got != most-1 || x.Size() != most || x.Store().Len() != 63 {
		t.Errorf("the last Append is %d, Size %d, with %d nodes", got, x.Size(), x.Store().Len())
	}
	if got := x.Append(h(1)); got != most || x.Size() != most || x.Store().Len() != 63 {
		t.Errorf("the one behind the last is %d, Size %d, with %d nodes", got, x.Size(), x.Store().Len())
	}
}

// Promise 6.6: of a size above Size nothing is asked, even if Size is the greatest.
func TestOldOfFull(t *testing.T) {
	x := full(t, most)
	for _, n := range []uint64{most + 1, far} {
		if got, e := x.Old(n); got != (api.Hash{}) || e != api.ErrSize {
			t.Errorf("Old(%d) is %x, %v", n, got, e)
		}
	}
	for _, n := range []uint64{1, 5, most - 1, most} {
		if got, e := x.Old(n); got != (api.Hash{}) || e != api.ErrPlace {
			t.Errorf("Old(%d) is %x, %v", n, got, e)
		}
	}
}

// Rule R3: Peaks are a new list, each time.
func TestPeaksAreNew(t *testing.T) {
	leaves := some(0, 29)
	x, m := grown(t, 32, 2, leaves), plain{32, leaves}
	a, b := x.Peaks(), x.Peaks()
	clear(a[:cap(a)])
	if !slices.Equal(b, m.peaks()) {
		t.Error("one list of peaks changes with another")
	}
	hold(t, x, m, "behind a change of its answer")
	x.Append(h(29))
	if !slices.Equal(b, m.peaks()) {
		t.Error("a list of peaks changes with the tree")
	}
}

// Rule R3: what is handed in is not changed and not kept.
func TestDataIsNotKept(t *testing.T) {
	room := []byte("data and what lies behind")
	was := slices.Clone(room)
	x := made(t, 32, 0)
	x.Add(room[:4])
	if !slices.Equal(room, was) {
		t.Error("Add changed the data, or what lies behind")
	}
	m := plain{32, []api.Hash{hash.Leaf(32, []byte("data"))}}
	hold(t, x, m, "behind Add")
	clear(room)
	hold(t, x, m, "behind a change of the data")
}

// Rule R1: a tree that New did not make ends its calls, too.
func TestTreeOfNobody(t *testing.T) {
	var x mmr.Tree
	m := plain{w: 0}
	for i := range 9 {
		x.Append(h(i))
		m.leaves = append(m.leaves, h(i))
	}
	hold(t, &x, m, "without New")
}
