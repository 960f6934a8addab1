package mmr_test

import (
	"math/bits"
	"slices"
	"testing"

	"massif/api"
	"massif/hash"
	"massif/mmr"
)

// Promise 6.1: the examples.
func TestBagExamples(t *testing.T) {
	a, b, c := h(1), h(2), h(3)
	p := hash.Node(32, a, b)
	for _, x := range []struct {
		n     uint64
		peaks []api.Hash
		want  api.Hash
		e     api.Errno
	}{
		{0, nil, hash.Root(32, 0, api.Hash{}), api.OK},
		{0, []api.Hash{}, hash.Root(32, 0, api.Hash{}), api.OK},
		{1, []api.Hash{a}, hash.Root(32, 1, a), api.OK},
		{3, []api.Hash{p, c}, hash.Root(32, 3, hash.Fold(32, p, c)), api.OK},
		{7, []api.Hash{p, c, a}, hash.Root(32, 7, hash.Fold(32, p, hash.Fold(32, c, a))), api.OK},
		{3, []api.Hash{a}, api.Hash{}, api.ErrCount},
		{1<<62 + 1, []api.Hash{a, b}, api.Hash{}, api.ErrSize},
	} {
		if got, e := mmr.Bag(32, x.n, x.peaks); got != x.want || e != x.e {
			t.Errorf("Bag(32, %d, %d peaks) is %x, %v, want %x, %v", x.n, len(x.peaks), got, e, x.want, x.e)
		}
	}
}

// Promise 6.1: as many peaks as the size has set bits, of every width, up to the greatest number.
func TestBag(t *testing.T) {
	sizes := []uint64{most - 1, most, 0x2aaaaaaaaaaaaaaa, 0x3fffffff00000001}
	for n := range uint64(70) {
		sizes = append(sizes, n)
	}
	for b := range 62 {
		sizes = append(sizes, 1<<b, 1<<b+1, 1<<b-1)
	}
	for _, n := range sizes {
		want := bits.OnesCount64(n)
		for count := range want + 3 {
			checkBag(t, n, some(5, count), count == want)
		}
	}
}

func checkBag(t *testing.T, n uint64, peaks []api.Hash, fits bool) {
	t.Helper()
	for _, w := range []int{-1, 0, 1, 2, 17, 32, 33} {
		got, e := mmr.Bag(w, n, peaks)
		want, wantE := hash.Root(w, n, under(w, peaks)), api.OK
		if !fits {
			want, wantE = api.Hash{}, api.ErrCount
		}
		if got != want || e != wantE {
			t.Fatalf("Bag(%d, %d, %d peaks) is %x, %v, want %x, %v", w, n, len(peaks), got, e, want, wantE)
		}
	}
}

// Promise 6.1 and rule R2: a size above MaxLeaves is told ahead of a wrong number of peaks.
func TestBagBothErrors(t *testing.T) {
	for _, n := range []uint64{most + 1, most + 2, 1 << 63, far} {
		for count := range 66 {
			if got, e := mmr.Bag(32, n, some(0, count)); got != (api.Hash{}) || e != api.ErrSize {
				t.Fatalf("Bag(32, %d, %d peaks) is %x, %v", n, count, got, e)
			}
		}
	}
}

// Promises 6.2 and 6.8: all nodes, as appends make them.
func TestGrow(t *testing.T) {
	for _, w := range []int{-3, 0, 1, 3, 32, 40} {
		for height := range 10 {
			leaves := some(height, 1<<height)
			got, e := mmr.Grow(w, leaves)
			if want := (plain{w, leaves}).nodes(); !slices.Equal(got, want) || e != api.OK {
				t.Fatalf("Grow(%d, 2^%d leaves) is %d nodes, %v, want %d", w, height, len(got), e, len(want))
			}
			x := grown(t, w, 3, leaves)
			if x.Store().Len() != uint64(len(got)) {
				t.Fatalf("Grow(%d, 2^%d leaves) is %d nodes, the tree has %d", w, height, len(got), x.Store().Len())
			}
			for p, hash := range x.Store().All() {
				if got[p] != hash {
					t.Fatalf("Grow(%d, 2^%d leaves) has at %d another node than the tree", w, height, p)
				}
			}
		}
	}
}

// Promise 6.2: of 2^MaxLog leaves, and of one more or less, and of twice as many.
func TestGrowMost(t *testing.T) {
	leaves := some(0, 1<<(api.MaxLog+1))
	most := leaves[:1<<api.MaxLog]
	if got, e := mmr.Grow(2, most); !slices.Equal(got, plain{2, most}.nodes()) || e != api.OK {
		t.Errorf("Grow of 2^MaxLog leaves is %d nodes, %v", len(got), e)
	}
	for _, n := range []int{1<<api.MaxLog - 1, 1<<api.MaxLog + 1, 1<<(api.MaxLog+1) - 1, 1 << (api.MaxLog + 1)} {
		if got, e := mmr.Grow(2, leaves[:n]); len(got) != 0 || e != api.ErrCount {
			t.Errorf("Grow of %d leaves is %d nodes, %v", n, len(got), e)
		}
	}
}

// Promise 6.2: no other number of leaves than a power of two.
func TestGrowRefuses(t *testing.T) {
	for n := range 600 {
		got, e := mmr.Grow(1, some(0, n))
		want := api.OK
		if n == 0 || n&(n-1) != 0 {
			want = api.ErrCount
		}
		if e != want || e != api.OK && len(got) != 0 {
			t.Fatalf("Grow of %d leaves is %d nodes, %v", n, len(got), e)
		}
	}
	if got, e := mmr.Grow(1, []api.Hash{}); len(got) != 0 || e != api.ErrCount {
		t.Errorf("Grow of an empty list is %d nodes, %v", len(got), e)
	}
}

// Rule R3: lists that are handed in are not changed, nor is what lies behind them; what is answered is apart from them.
func TestListsOfBagAndGrow(t *testing.T) {
	for _, n := range []int{1, 2, 4, 64} {
		room := some(0, n+9)
		was := slices.Clone(room)
		l, _ := mmr.Grow(32, room[:n])
		want := plain{32, was[:n]}.nodes()
		if !slices.Equal(room, was) {
			t.Fatalf("Grow of %d leaves changed them, or what lies behind", n)
		}
		for i := range room {
			room[i] = h(999)
		}
		if !slices.Equal(l, want) {
			t.Fatalf("Grow's answer of %d leaves changes with them", n)
		}
		clear(l[:cap(l)])
		if room[0] != h(999) {
			t.Fatalf("the leaves change with Grow's answer")
		}
	}
	room := some(0, 9)
	before, _ := mmr.Bag(32, 11, room[:3])
	if !slices.Equal(room, some(0, 9)) {
		t.Error("Bag changed what was handed in")
	}
	clear(room[3:])
	if behind, _ := mmr.Bag(32, 11, room[:3]); behind != before {
		t.Error("Bag read behind the list")
	}
}

// Rule R3: two answers of Grow share nothing.
func TestGrowIsNew(t *testing.T) {
	leaves := some(0, 8)
	a, _ := mmr.Grow(32, leaves)
	b, _ := mmr.Grow(32, leaves)
	clear(a[:cap(a)])
	if want := (plain{32, leaves}).nodes(); !slices.Equal(b, want) {
		t.Error("one answer of Grow changes with another")
	}
}
