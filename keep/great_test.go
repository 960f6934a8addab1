package keep_test

import (
	"fmt"
	"slices"
	"testing"

	"massif/api"
	"massif/hash"
	"massif/keep"
	"massif/mmr"
)

// great are sizes up to MaxLeaves: powers of two, their neighbours, and some between.
func great() []uint64 {
	l := []uint64{300, 0x0123456789abcdef, 0x2aaaaaaaaaaaaaaa, 0x1555555555555555, 0x3ffffffffffffff5}
	for b := 7; b < 62; b += 9 {
		l = append(l, 1<<b-1, 1<<b, 1<<b+1, most-1<<b)
	}
	return append(l, most-3, most-2, most-1, most)
}

// thin are the parts of a keep of n leaves in which just the peaks live and what the proofs of these leaves have. A node
// that is known from two that live is what they make; each other one is any hash.
func thin(log int, n uint64, leaves ...uint64) parts {
	x := parts{w: 32, log: log, n: n, places: placesOf(peaks(n)), pins: map[uint64]int{}}
	for _, i := range leaves {
		x.places = append(x.places, ofLeaf(i, n)...)
		x.pins[i] = 1
	}
	slices.Sort(x.places)
	x.places = slices.Compact(x.places)
	x.nodes = make([]api.Hash, len(x.places))
	for j, p := range x.places {
		x.nodes[j] = x.fitting(j, p)
	}
	return x
}

// fitting is a hash for the node at p that its kids, if both are ahead in the list, make.
func (x parts) fitting(j int, p uint64) api.Hash {
	s := spotAt(p)
	if s.Height == 0 {
		return h(p)
	}
	low := int(s.Height) - 1
	l, okL := slices.BinarySearch(x.places[:j], place(at(low, 2*s.Index)))
	r, okR := slices.BinarySearch(x.places[:j], place(at(low, 2*s.Index+1)))
	if okL && okR {
		return hash.Node(x.w, x.nodes[l], x.nodes[r])
	}
	return h(p)
}

// of are the hashes at these places, which are among those of the parts.
func (x parts) of(places []uint64) []api.Hash {
	var l []api.Hash
	for _, p := range places {
		j, _ := slices.BinarySearch(x.places, p)
		l = append(l, x.nodes[j])
	}
	return l
}

// Promises 11.5 and 11.7: sizes of which no memory has all nodes: what lives is told, what is proved by it is proved,
// all else is refused.
func TestFromGreat(t *testing.T) {
	for _, n := range great() {
		for log := 0; log <= 16; log += 8 {
			leaves := []uint64{0, n / 3, n - 1}
			x := thin(log, n, leaves...)
			when := fmt.Sprintf("%d leaves", n)
			k := x.check(t, when, api.OK, 0)
			sameList(t, when, "Peaks", k.Peaks(), x.of(placesOf(peaks(n))))
			root, _ := mmr.Bag(32, n, k.Peaks())
			same(t, when, "Root", k.Root(), root)
			for _, i := range leaves {
				p, e := k.Prove(i)
				if want := (api.Proof{Size: n, Index: i, Nodes: x.of(ofLeaf(i, n))}); e != api.OK || !sameProof(p, want) {
					t.Fatalf("%s: Prove(%d) is %v, %v", when, i, p, e)
				}
			}
			if _, e := k.Prove(n / 5); e != api.ErrPruned {
				t.Fatalf("%s: Prove(%d) is %v", when, n/5, e)
			}
			same(t, when, "Pin", k.Pin(n/5), api.ErrPruned)
			same(t, when, "Pin", k.Pin(n), api.ErrIndex)
			same(t, when, "Prune", k.Prune(), 0)
			checkUnpinnedOneByOne(t, when, k, x, leaves)
		}
	}
}

// checkUnpinnedOneByOne takes the pins away, prunes, and holds what lives against the words of 11.3.
func checkUnpinnedOneByOne(t *testing.T, when string, k *keep.Keep, x parts, leaves []uint64) {
	t.Helper()
	lived := len(x.places)
	for j, i := range leaves {
		same(t, when, "Unpin", k.Unpin(i), api.OK)
		want := thin(x.log, x.n, leaves[j+1:]...).places
		same(t, when, "Prune", k.Prune(), uint64(lived-len(want)))
		sameList(t, when, "Live", k.Live(), want)
		same(t, when, "Chunks", k.Chunks(), chunksOf(want, x.log))
		lived = len(want)
	}
}

// Promise 11.5: wrong parts of great sizes.
func TestFromGreatWrong(t *testing.T) {
	for _, n := range great() {
		x := thin(3, n, n/3)
		last := len(x.places) - 1
		for j := range x.places {
			y := x
			y.places = slices.Delete(slices.Clone(x.places), j, j+1)
			y.nodes = slices.Delete(slices.Clone(x.nodes), j, j+1)
			y.checkWords(t, "a node that lacks")
			y = x
			y.nodes = slices.Clone(x.nodes)
			y.nodes[j] = turned(y.nodes[j], 9)
			y.checkWords(t, "a bit that is turned")
		}
		for _, p := range []uint64{count(n), count(n) + 1, 1 << 63, far} {
			y := x
			y.places = append(slices.Clone(x.places), p)
			y.nodes = append(slices.Clone(x.nodes), h(1))
			y.check(t, "a place behind all", api.ErrPlace, last+1)
		}
		for _, i := range []uint64{n, n + 1, 1 << 63, far} {
			y := x
			y.pins = map[uint64]int{n / 3: 1, i: 1}
			y.check(t, "a pin behind all", api.ErrPin, 0)
		}
	}
}

// Promises 11.5 and 11.8: a leaf of a great keep that has a pin is proved while that grows, pruned or not.
func TestGreatGrows(t *testing.T) {
	for _, n := range great() {
		if most-n < 9 {
			continue
		}
		x := thin(2, n, n/3, n-1)
		k := x.check(t, "great", api.OK, 0)
		known := map[uint64]api.Hash{}
		for j, p := range x.places {
			known[p] = x.nodes[j]
		}
		for size := n; size < n+9; {
			s := at(0, size)
			known[place(s)] = h(size)
			for ; s.Index%2 == 1; s = parent(s) {
				known[place(parent(s))] = hash.Node(32, known[place(sibling(s))], known[place(s)])
			}
			same(t, "great", "Append", k.Append(h(size)), size)
			size++
			if size%3 == 0 {
				k.Prune()
			}
			for _, i := range []uint64{n / 3, n - 1} {
				p, e := k.Prove(i)
				same(t, "great, grown", "Prove", e, api.OK)
				for j, at := range ofLeaf(i, size) {
					same(t, "great, grown", fmt.Sprintf("the node at %d", at), p.Nodes[j], known[at])
				}
			}
		}
	}
}

// Promises 11.1 and 11.5: at MaxLeaves nothing more is appended; one leaf ahead of it just one.
func TestLastLeaf(t *testing.T) {
	x := thin(4, most)
	k := x.check(t, "all leaves", api.OK, 0)
	same(t, "all leaves", "Append", k.Append(h(1)), most)
	same(t, "all leaves", "Add", k.Add([]byte{1}), most)
	same(t, "all leaves", "Install", k.Install(hashes(0, 1), 1), api.ErrSize)
	same(t, "all leaves", "Install", k.Install(nil, 0), api.OK)
	same(t, "all leaves", "Install", k.Install(hashes(0, 1), 0), api.ErrCount)
	same(t, "all leaves", "Size", k.Size(), most)
	sameList(t, "all leaves", "Live", k.Live(), []uint64{1<<63 - 2})

	x = thin(4, most-1, 0, most-2)
	for _, by := range []string{"Append", "Add", "Install"} {
		k = x.check(t, "all but one", api.OK, 0)
		leaf, nodes := h(5), []api.Hash{h(5)}
		if by == "Add" {
			leaf = hash.Leaf(32, []byte{5})
			nodes = []api.Hash{leaf}
		}
		for _, p := range slices.Backward(k.Peaks()) {
			nodes = append(nodes, hash.Node(32, p, nodes[len(nodes)-1]))
		}
		switch by {
		case "Append":
			same(t, by, "the last one", k.Append(leaf), most-1)
		case "Add":
			same(t, by, "the last one", k.Add([]byte{5}), most-1)
		case "Install":
			same(t, by, "two leaves", k.Install(nodes, 2), api.ErrSize)
			same(t, by, "the last one", k.Install(nodes, 1), api.OK)
		}
		sameList(t, by, "Peaks", k.Peaks(), nodes[len(nodes)-1:])
		same(t, by, "one more", k.Append(leaf), most)
		for _, i := range []uint64{0, most - 2} {
			if p, e := k.Prove(i); e != api.OK || p.Size != most || len(p.Nodes) != 62 {
				t.Fatalf("%s: Prove(%d) is %v, %v", by, i, p, e)
			}
		}
		same(t, by, "Pin of the last one", k.Pin(most-1), api.OK)
		pinned := []uint64{0, most - 2, most - 1}
		sameList(t, by, "Pinned", k.Pinned(), pinned)
		k.Prune()
		sameList(t, by, "Live", k.Live(), thin(4, most, pinned...).places)
	}
}

// Promise 11.9: of great keeps.
func TestGreatOfOwn(t *testing.T) {
	for _, n := range great() {
		k := thin(5, n, 0, n-1).check(t, "great", api.OK, 0)
		for range 3 {
			c := again(t, "great", k)
			for _, x := range []*keep.Keep{k, c} {
				x.Append(h(1))
				x.Pin(n / 2)
				x.Prune()
				x.Append(h(2))
			}
			same(t, "great", "Size", k.Size(), c.Size())
			same(t, "great", "Root", k.Root(), c.Root())
			same(t, "great", "Chunks", k.Chunks(), c.Chunks())
			sameList(t, "great", "Live", k.Live(), c.Live())
			sameList(t, "great", "Pinned", k.Pinned(), c.Pinned())
			p, e := k.Prove(n - 1)
			q, f := c.Prove(n - 1)
			if e != f || !sameProof(p, q) {
				t.Fatalf("%d leaves: Prove is %v, %v, and %v, %v", n, p, e, q, f)
			}
		}
	}
}
