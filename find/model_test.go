package find_test

import (
	"math/bits"
	"slices"
	"testing"

	"massif/api"
	"massif/find"
	"massif/mmr"
)

const (
	most = uint64(api.MaxLeaves)
	far  = ^uint64(0)
)

// h is a hash that is told by a number, each by another one. Lower numbers have greater hashes, for the order of hashes
// to be another one than that in which tests add them.
func h(n uint64) api.Hash {
	x := api.Hash{30: 7, 31: byte(n)}
	for k := range 8 {
		x[k] = ^byte(n >> (56 - 8*k))
	}
	return x
}

// hashes are those of these numbers.
func hashes(numbers ...uint64) []api.Hash {
	var l []api.Hash
	for _, n := range numbers {
		l = append(l, h(n))
	}
	return l
}

// list is what a find knows, by the words of 22.1: a list of leaves' hashes, and nothing beside it.
type list []api.Hash

func (l list) at(leaf api.Hash) []uint64 {
	var at []uint64
	for i, x := range l {
		if x == leaf {
			at = append(at, uint64(i))
		}
	}
	return at
}

// firsts are the hashes of the list, each once, in the order of their first indices.
func (l list) firsts() []api.Hash {
	var firsts []api.Hash
	for _, x := range l {
		if !slices.Contains(firsts, x) {
			firsts = append(firsts, x)
		}
	}
	return firsts
}

func (l list) twice() []api.Hash {
	var twice []api.Hash
	for _, x := range l.firsts() {
		if len(l.at(x)) > 1 {
			twice = append(twice, x)
		}
	}
	return twice
}

// beyond are numbers from n on: none of them is an index of n leaves.
func beyond(n uint64) []uint64 {
	return []uint64{n, n + 1, n + 2, 2*n + 1, n + 1<<8, n + 1<<16, 1<<31 + n, 1<<32 + n, most + n, 1<<63 + n, 1<<63 - 1, 1 << 63, far - 1, far}
}

// pair is a find, and the list that it has to answer like.
type pair struct {
	t *testing.T
	*find.Find
	list list
}

func newPair(t *testing.T) *pair {
	t.Helper()
	p := &pair{t: t, Find: find.New()}
	p.check()
	return p
}

// pairOf is a pair that was added these leaves.
func pairOf(t *testing.T, leaves ...api.Hash) *pair {
	t.Helper()
	p := newPair(t)
	for _, l := range leaves {
		p.add(l)
	}
	return p
}

// add adds a leaf, and holds the answer and all that is known behind it.
func (p *pair) add(leaf api.Hash) {
	p.t.Helper()
	if i := p.Add(leaf); i != uint64(len(p.list)) {
		p.t.Fatalf("Add behind %d leaves is %d", len(p.list), i)
	}
	p.list = append(p.list, leaf)
	p.check(leaf)
}

// cut cuts, and holds the answer and all that is known behind it, of the hashes that went, too.
func (p *pair) cut(n uint64) {
	p.t.Helper()
	was, size := p.list, uint64(len(p.list))
	want := api.OK
	if n > size {
		want = api.ErrSize
	}
	if e := p.Cut(n); e != want {
		p.t.Fatalf("Cut(%d) of %d leaves is %v, want %v", n, size, e, want)
	}
	if n <= size {
		p.list = slices.Clone(p.list[:n])
	}
	p.check(was.firsts()...)
}

// check holds every answer against the list; At is asked of all hashes that stand there, of these others, and of some that
// stand nowhere.
func (p *pair) check(others ...api.Hash) {
	p.t.Helper()
	if n := p.Size(); n != uint64(len(p.list)) {
		p.t.Fatalf("Size is %d, want %d", n, len(p.list))
	}
	for i, want := range p.list {
		if x, e := p.Leaf(uint64(i)); x != want || e != api.OK {
			p.t.Fatalf("Leaf(%d) of %d is %x, %v, want %x", i, len(p.list), x, e, want)
		}
	}
	for _, i := range beyond(uint64(len(p.list))) {
		if x, e := p.Leaf(i); x != (api.Hash{}) || e != api.ErrIndex {
			p.t.Fatalf("Leaf(%d) of %d is %x, %v", i, len(p.list), x, e)
		}
	}
	firsts := p.list.firsts()
	if n := p.Unlike(); n != len(firsts) {
		p.t.Fatalf("Unlike of %d leaves is %d, want %d", len(p.list), n, len(firsts))
	}
	if l, want := p.Twice(), p.list.twice(); !slices.Equal(l, want) {
		p.t.Fatalf("Twice of %x is %x, want %x", p.list, l, want)
	}
	for _, x := range slices.Concat(firsts, others, nowhere()) {
		if l, want := p.At(x), p.list.at(x); !slices.Equal(l, want) {
			p.t.Fatalf("At(%x) of %d leaves is %v, want %v", x, len(p.list), l, want)
		}
	}
}

// nowhere are hashes that no test adds.
func nowhere() []api.Hash { return []api.Hash{h(far), h(most), {13: 1}} }

// node is a node's place, by the map of places: behind all that was made ahead of its last leaf, and as many nodes up as it
// is high.
func node(high int, k uint64) uint64 {
	last := (k+1)<<high - 1
	return 2*last - uint64(bits.OnesCount64(last)) + uint64(high)
}

// placesOf are those of the nodes of the proof of the leaf i of n, by the words of 7.1.
func placesOf(i, n uint64) []uint64 {
	var path, others []uint64
	for high := 62; high >= 0; high-- {
		if n>>high&1 == 0 {
			continue
		}
		peak := n>>high - 1
		if i>>high != peak {
			others = append(others, node(high, peak))
			continue
		}
		for k := range high {
			path = append(path, node(k, i>>k^1))
		}
	}
	return append(path, others...)
}

// grown is a tree with these leaves.
func grown(t *testing.T, w int, leaves []api.Hash) *mmr.Tree {
	t.Helper()
	x, e := mmr.New(w, 3)
	if e != api.OK {
		t.Fatalf("mmr.New(%d, 3) is %v", w, e)
	}
	for _, l := range leaves {
		x.Append(l)
	}
	return x
}

// dice are numbers that are drawn by a rule, the same in every run.
type dice uint64

func (d *dice) next(n uint64) uint64 {
	*d = *d*6364136223846793005 + 1442695040888963407
	return uint64(*d>>33) % n
}
