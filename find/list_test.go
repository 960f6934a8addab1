package find_test

import (
	"slices"
	"testing"

	"massif/api"
	"massif/find"
)

// Promises 22.1, 22.2: the chapter's examples.
func TestExamples(t *testing.T) {
	a, b, c := h(1), h(2), h(3)
	f := find.New()
	if i, j, k := f.Add(a), f.Add(b), f.Add(a); i != 0 || j != 1 || k != 2 {
		t.Errorf("Add is %d, %d, %d", i, j, k)
	}
	if l := f.At(a); !slices.Equal(l, []uint64{0, 2}) {
		t.Errorf("At(a) is %v", l)
	}
	if l := f.At(c); len(l) != 0 {
		t.Errorf("At(c) is %v", l)
	}
	if n := f.Unlike(); n != 2 {
		t.Errorf("Unlike is %d", n)
	}
	if l := f.Twice(); !slices.Equal(l, []api.Hash{a}) {
		t.Errorf("Twice is %x", l)
	}
	if x, e := f.Leaf(3); x != (api.Hash{}) || e != api.ErrIndex {
		t.Errorf("Leaf(3) is %x, %v", x, e)
	}
	if e := f.Cut(2); e != api.OK {
		t.Errorf("Cut(2) is %v", e)
	}
	if l := f.At(a); !slices.Equal(l, []uint64{0}) {
		t.Errorf("behind Cut(2) At(a) is %v", l)
	}
	if l := f.Twice(); len(l) != 0 {
		t.Errorf("behind Cut(2) Twice is %x", l)
	}
	if e := f.Cut(3); e != api.ErrSize {
		t.Errorf("Cut(3) is %v", e)
	}
}

// Promise 22.1: a new find knows no leaf.
func TestNew(t *testing.T) {
	f := find.New()
	if f.Size() != 0 || f.Unlike() != 0 || len(f.Twice()) != 0 {
		t.Errorf("Size, Unlike, Twice are %d, %d, %x", f.Size(), f.Unlike(), f.Twice())
	}
	for _, x := range append(nowhere(), api.Hash{}) {
		if l := f.At(x); len(l) != 0 {
			t.Errorf("At(%x) is %v", x, l)
		}
	}
	for _, i := range beyond(0) {
		if x, e := f.Leaf(i); x != (api.Hash{}) || e != api.ErrIndex {
			t.Errorf("Leaf(%d) is %x, %v", i, x, e)
		}
	}
}

// Promise 22.1: one leaf, as it is handed in, though it be all noughts, or have bytes behind every width.
func TestOneLeaf(t *testing.T) {
	all := api.Hash{}
	for k := range all {
		all[k] = 255
	}
	for _, x := range []api.Hash{{}, {0: 1}, {31: 1}, all, h(0)} {
		p := pairOf(t, x)
		p.add(x)
		p.cut(1)
		p.cut(0)
		p.add(x)
	}
}

// Promise 22.1: hashes that part in one bit are unlike, whichever bit it is.
func TestOneBit(t *testing.T) {
	p := pairOf(t, h(5))
	for bit := range 256 {
		x := h(5)
		x[bit/8] ^= 1 << (bit % 8)
		p.add(x)
	}
	if n := p.Unlike(); n != 257 {
		t.Errorf("Unlike is %d", n)
	}
}

// Promise 22.1: some dozens of leaves, whose hashes stand once, twice, many times, all once, or all alike.
func TestDozens(t *testing.T) {
	for _, kinds := range []uint64{1, 2, 3, 7, 20, 59, 60, 1 << 30} {
		d := dice(kinds)
		for _, number := range []func(i uint64) uint64{
			func(i uint64) uint64 { return i % kinds },
			func(i uint64) uint64 { return 60 - i%kinds },
			func(i uint64) uint64 { return i * i % kinds },
			func(i uint64) uint64 { return i / (60/kinds + 1) },
			func(uint64) uint64 { return d.next(kinds) },
		} {
			p := newPair(t)
			for i := range uint64(60) {
				p.add(h(number(i)))
			}
		}
	}
}

// Promise 22.1: every list of some few leaves.
func TestEachList(t *testing.T) {
	for size := range 7 {
		for _, numbers := range digits(size, 4) {
			p := pairOf(t, hashes(numbers...)...)
			p.checkTogether()
		}
	}
}

// digits are all rows of so many digits below base.
func digits(size int, base uint64) [][]uint64 {
	rows := [][]uint64{nil}
	for range size {
		var longer [][]uint64
		for _, row := range rows {
			for d := range base {
				longer = append(longer, append(slices.Clone(row), d))
			}
		}
		rows = longer
	}
	return rows
}

// Promise 22.1: Twice goes by the first indices: not by the hashes, whichever way they run, not by the second or the last
// indices, not by how often they stand.
func TestOrderOfTwice(t *testing.T) {
	for _, z := range []struct{ leaves, twice []uint64 }{
		{[]uint64{1, 2, 2, 1}, []uint64{1, 2}},
		{[]uint64{2, 1, 1, 2}, []uint64{2, 1}},
		{[]uint64{1, 2, 1, 2}, []uint64{1, 2}},
		{[]uint64{2, 1, 2, 1}, []uint64{2, 1}},
		{[]uint64{3, 1, 2, 2, 1, 3}, []uint64{3, 1, 2}},
		{[]uint64{3, 2, 1, 2, 1, 3}, []uint64{3, 2, 1}},
		{[]uint64{9, 5, 7, 5, 5, 5, 7, 6}, []uint64{5, 7}},
		{[]uint64{4, 4, 4, 8, 8, 1}, []uint64{4, 8}},
		{[]uint64{1, 2, 3, 4}, nil},
		{[]uint64{6, 6}, []uint64{6}},
	} {
		p := pairOf(t, hashes(z.leaves...)...)
		if l := p.Twice(); !slices.Equal(l, hashes(z.twice...)) {
			t.Errorf("Twice of %v is %x, want those of %v", z.leaves, l, z.twice)
		}
	}
}

// Promise 22.1: so many hashes that stand twice that no order comes about by chance; the second ones come in turn.
func TestOrderOfManyTwice(t *testing.T) {
	var leaves, want []api.Hash
	d := dice(3)
	for range uint64(500) {
		leaves = append(leaves, h(d.next(1<<30)))
	}
	want = list(leaves).firsts()
	p := &pair{t: t, Find: find.New()}
	for _, l := range [][]api.Hash{leaves, leaves} {
		for _, x := range l {
			p.Add(x)
			p.list = append(p.list, x)
		}
		slices.Reverse(leaves)
	}
	p.check()
	if l := p.Twice(); !slices.Equal(l, want) {
		t.Error("Twice is not in the order of the first indices")
	}
}

// checkTogether is promise 22.4: At of each leaf has its index; all At of unlike hashes together are the indices, each once.
func (p *pair) checkTogether() {
	p.t.Helper()
	met := map[api.Hash]bool{}
	var all []uint64
	for i := range p.Size() {
		x, _ := p.Leaf(i)
		at := p.At(x)
		if !slices.Contains(at, i) || !slices.IsSorted(at) {
			p.t.Fatalf("At(Leaf(%d)) is %v", i, at)
		}
		if !met[x] {
			met[x] = true
			all = append(all, at...)
		}
	}
	slices.Sort(all)
	for i, x := range all {
		if x != uint64(i) {
			p.t.Fatalf("all At together are %v", all)
		}
	}
	if len(all) != int(p.Size()) || len(met) != p.Unlike() {
		p.t.Fatalf("all At together are %d indices of %d, of %d hashes of %d", len(all), p.Size(), len(met), p.Unlike())
	}
}

// Promise 22.4, of some dozens of leaves, behind cuts, too.
func TestTogether(t *testing.T) {
	for seed := range uint64(20) {
		d := dice(seed)
		p := newPair(t)
		for range 5 {
			for range 30 {
				p.add(h(d.next(3 + 4*seed)))
				p.checkTogether()
			}
			p.cut(d.next(p.Size() + 1))
			p.checkTogether()
		}
	}
}
