package sync_test

import (
	"fmt"
	"slices"
	"testing"

	"massif/api"
	"massif/hash"
	"massif/mmr"
	"massif/pos"
	"massif/proof"
	"massif/sync"
	"massif/verify"
)

const (
	most = uint64(api.MaxLeaves)
	far  = ^uint64(0)
)

// leaf is the n-th of hashes that are all unlike one another; it has bytes behind every width but the greatest.
func leaf(n uint64) api.Hash {
	x := api.Hash{29: 1, 30: 9, 31: byte(n * 7)}
	for i := range 8 {
		x[i] = byte(n >> (8 * i))
	}
	return x
}

// leaves are k of them, from leaf(from) on.
func leaves(from uint64, k int) []api.Hash {
	l := make([]api.Hash, k)
	for i := range l {
		l[i] = leaf(from + uint64(i))
	}
	return l
}

// treeOf is a tree of these leaves.
func treeOf(t *testing.T, w int, l []api.Hash) *mmr.Tree {
	t.Helper()
	x, e := mmr.New(w, 3)
	if e != api.OK {
		t.Fatalf("mmr.New(%d, 3) is %v", w, e)
	}
	for _, h := range l {
		x.Append(h)
	}
	return x
}

// rootAt is the root of a tree's first n leaves.
func rootAt(t *testing.T, x *mmr.Tree, n uint64) api.Hash {
	t.Helper()
	r, e := x.Old(n)
	if e != api.OK {
		t.Fatalf("Old(%d) is %v", n, e)
	}
	return r
}

// bytesOf are those of a tree's prefix proof.
func bytesOf(t *testing.T, s proof.Source, m, n uint64) []byte {
	t.Helper()
	p, e := proof.MakePrefix(s, m, n)
	if e != api.OK {
		t.Fatalf("MakePrefix(%d, %d) is %v", m, n, e)
	}
	return written(t, p)
}

func written(t *testing.T, p api.Prefix) []byte {
	t.Helper()
	b, e := proof.EncodePrefix(p)
	if e != api.OK {
		t.Fatalf("EncodePrefix{%d, %d, %d nodes} is %v", p.From, p.Size, len(p.Nodes), e)
	}
	return b
}

// words are a replica by the words of the chapter: leaves that it has, leaves that came since the aim, and the head that
// it aims at. All else is worked out from them anew.
type words struct {
	w        int
	own, fed []api.Hash
	aims     bool
	aim      api.Head
}

// nodes are those of a forest, in the order in which they are made.
func nodes(w int, l []api.Hash) []api.Hash {
	var made []api.Hash
	var peaks []api.Hash
	for i, h := range l {
		made = append(made, h)
		for k := i; k%2 == 1; k /= 2 {
			h = hash.Node(w, peaks[len(peaks)-1], h)
			peaks = peaks[:len(peaks)-1]
			made = append(made, h)
		}
		peaks = append(peaks, h)
	}
	return made
}

// root is that of leaves, by the words of 6.1.
func root(w int, l []api.Hash) api.Hash {
	made := nodes(w, l)
	places := pos.Peaks(uint64(len(l)))
	var acc api.Hash
	for j, p := range slices.Backward(places) {
		if j == len(places)-1 {
			acc = made[p]
		} else {
			acc = hash.Fold(w, made[p], acc)
		}
	}
	return hash.Root(w, uint64(len(l)), acc)
}

func (x *words) size() uint64  { return uint64(len(x.own)) }
func (x *words) lacks() uint64 { return x.aim.Size - x.size() - uint64(len(x.fed)) }
func (x *words) forget()       { x.fed, x.aims, x.aim = nil, false, api.Head{} }

func (x *words) Aim(n uint64, r api.Hash, b []byte) api.Errno {
	if x.aims {
		return api.ErrStage
	}
	if e := verify.Prefix(x.w, x.size(), root(x.w, x.own), n, r, b); e != api.OK {
		return e
	}
	x.aims, x.aim = true, api.Head{Size: n, Root: r}
	if x.lacks() == 0 {
		x.forget()
	}
	return api.OK
}

func (x *words) Feed(l []api.Hash) (uint64, api.Errno) {
	if !x.aims {
		return 0, api.ErrStage
	}
	if uint64(len(l)) > x.lacks() {
		return 0, api.ErrLong
	}
	x.fed = slices.Concat(x.fed, l)
	if left := x.lacks(); left > 0 {
		return left, api.OK
	}
	all := slices.Concat(x.own, x.fed)
	right := root(x.w, all) == x.aim.Root
	x.forget()
	if !right {
		return 0, api.ErrRoot
	}
	x.own = all
	return 0, api.OK
}

func (x *words) Drop() api.Errno {
	if !x.aims {
		return api.ErrStage
	}
	x.forget()
	return api.OK
}

// pair is a replica beside the words: each call is made of both, and behind each all that can be asked is asked of both.
type pair struct {
	t     *testing.T
	name  string
	r     *sync.Replica
	words words
	trace []string    // the calls so far
	met   []api.Errno // what came of those that were drawn
}

func newPair(t *testing.T, w, log int) *pair {
	t.Helper()
	r, e := sync.New(w, log)
	if r == nil || e != api.OK {
		t.Fatalf("New(%d, %d) is %v, %v", w, log, r, e)
	}
	p := &pair{t: t, name: fmt.Sprintf("w %d, log %d", w, log), r: r, words: words{w: w}}
	p.same()
	return p
}

// at is a pair that has come to the leaves l.
func at(t *testing.T, w, log int, l []api.Hash) *pair {
	t.Helper()
	p := newPair(t, w, log)
	if len(l) > 0 {
		p.reach(treeOf(t, w, l), uint64(len(l)))
	}
	return p
}

func (p *pair) fail(what string, got, want any) {
	p.t.Helper()
	p.t.Fatalf("%s, behind %v: %s is %v, want %v", p.name, p.trace, what, got, want)
}

// Aim is called, and must answer want.
func (p *pair) Aim(n uint64, r api.Hash, b []byte, want api.Errno) {
	p.t.Helper()
	e := p.words.Aim(n, r, b)
	got := p.r.Aim(n, r, b)
	p.trace = append(p.trace, fmt.Sprintf("Aim(%d)", n))
	if got != e || e != want {
		p.fail("its answer", got, fmt.Sprint(e, " and ", want))
	}
	p.same()
}

// Feed is called, and must answer want.
func (p *pair) Feed(l []api.Hash, left uint64, want api.Errno) {
	p.t.Helper()
	wordsLeft, e := p.words.Feed(l)
	gotLeft, got := p.r.Feed(l)
	p.trace = append(p.trace, fmt.Sprintf("Feed(%d)", len(l)))
	if got != e || e != want || gotLeft != wordsLeft || wordsLeft != left {
		p.fail("its answer", fmt.Sprint(gotLeft, got), fmt.Sprint(wordsLeft, e, " and ", left, want))
	}
	p.same()
}

// Drop is called, and must answer want.
func (p *pair) Drop(want api.Errno) {
	p.t.Helper()
	e := p.words.Drop()
	got := p.r.Drop()
	p.trace = append(p.trace, "Drop")
	if got != e || e != want {
		p.fail("its answer", got, fmt.Sprint(e, " and ", want))
	}
	p.same()
}

// reach has the replica aim at the first n leaves of a tree, and feeds them in one piece.
func (p *pair) reach(x *mmr.Tree, n uint64) {
	p.t.Helper()
	m := p.words.size()
	p.Aim(n, rootAt(p.t, x, n), bytesOf(p.t, x, m, n), api.OK)
	if m < n {
		p.Feed(leavesOf(x, m, n), 0, api.OK)
	}
}

// leavesOf are the leaves m, .., n - 1 of a tree.
func leavesOf(x *mmr.Tree, m, n uint64) []api.Hash {
	var l []api.Hash
	for i := m; i < n; i++ {
		place, _ := pos.Leaf(i)
		h, _ := x.Node(place)
		l = append(l, h)
	}
	return l
}

// same asks all that can be asked, changing nothing.
func (p *pair) same() {
	p.t.Helper()
	x := &p.words
	if got := p.r.Size(); got != x.size() {
		p.fail("Size", got, x.size())
	}
	if got, want := p.r.Root(), root(x.w, x.own); got != want {
		p.fail("Root", got, want)
	}
	n, h, ok := p.r.Want()
	if (api.Head{Size: n, Root: h}) != x.aim || ok != x.aims {
		p.fail("Want", fmt.Sprint(n, h, ok), fmt.Sprint(x.aim, x.aims))
	}
	sameNodes(p, nodes(x.w, x.own))
}

// sameNodes asks for each node, and for what lies beyond the last one: as far as the fed leaves would reach, and farther.
func sameNodes(p *pair, made []api.Hash) {
	p.t.Helper()
	all := uint64(len(made))
	for place, want := range made {
		if got, e := p.r.Node(uint64(place)); got != want || e != api.OK {
			p.fail(fmt.Sprintf("Node(%d)", place), fmt.Sprint(got, e), want)
		}
	}
	beyond := []uint64{all + 1<<20, 1<<32 + all, 1<<63 - 2, 1<<63 - 1, 1 << 63, far}
	for more := range 2*uint64(len(p.words.fed)) + 6 {
		beyond = append(beyond, all+more)
	}
	for _, place := range beyond {
		if got, e := p.r.Node(place); got != (api.Hash{}) || e != api.ErrPlace {
			p.fail(fmt.Sprintf("Node(%d)", place), fmt.Sprint(got, e), "none, ErrPlace")
		}
	}
}

// pieces are all ways to cut k leaves into pieces of one leaf and more, by their lengths.
func pieces(k int) [][]int {
	if k == 0 {
		return [][]int{nil}
	}
	var l [][]int
	for first := 1; first <= k; first++ {
		for _, rest := range pieces(k - first) {
			l = append(l, append([]int{first}, rest...))
		}
	}
	return l
}

// rows are all rising rows of sizes from 1 to n, the last one being n.
func rows(n uint64) [][]uint64 {
	var l [][]uint64
	for set := range uint64(1) << (n - 1) {
		var row []uint64
		for size := uint64(1); size < n; size++ {
			if set>>(size-1)&1 == 1 {
				row = append(row, size)
			}
		}
		l = append(l, append(row, n))
	}
	return l
}

// turned is l with one bit of one leaf another.
func turned(l []api.Hash, at, bit int) []api.Hash {
	x := slices.Clone(l)
	x[at][bit/8] ^= 1 << (bit % 8)
	return x
}

// madeUp is the root of n leaves that nobody has, and the proof that they begin with those of a replica: behind its own
// nodes there are any.
func madeUp(t *testing.T, x *words, n uint64) (api.Hash, []byte) {
	t.Helper()
	places, e := proof.PrefixPlaces(x.size(), n)
	if e != api.OK {
		t.Fatalf("PrefixPlaces(%d, %d) is %v", x.size(), n, e)
	}
	p := api.Prefix{From: x.size(), Size: n}
	made := nodes(x.w, x.own)
	for _, place := range places {
		if place < uint64(len(made)) {
			p.Nodes = append(p.Nodes, made[place])
		} else {
			p.Nodes = append(p.Nodes, leaf(place))
		}
	}
	_, peaks, e := verify.Reach(x.w, p)
	if e != api.OK {
		t.Fatalf("Reach of %d and %d is %v", p.From, n, e)
	}
	r, _ := mmr.Bag(x.w, n, peaks)
	return r, written(t, p)
}

// room is l with something behind its length.
func room[T any](l []T, more ...T) []T { return slices.Concat(l, more)[:len(l)] }

// overwrite writes over all of a list, and behind it, as far as it has room.
func overwrite[T any](l []T, with T) {
	l = l[:cap(l)]
	for i := range l {
		l[i] = with
	}
}

// dice are numbers that are drawn by a rule, the same in every run.
type dice uint64

func (d *dice) roll(n uint64) uint64 {
	*d = *d*6364136223846793005 + 1442695040888963407
	return uint64(*d>>33) % n
}
