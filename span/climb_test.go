package span_test

import (
	"slices"
	"testing"

	"massif/api"
	"massif/hash"
	"massif/many"
	"massif/span"
	"massif/verify"
)

func checkClimb(t *testing.T, w int, leaves []api.Hash, p api.Reach, want []api.Hash, wantE api.Errno) {
	t.Helper()
	if got, e := span.Climb(w, leaves, p); !slices.Equal(got, want) || e != wantE {
		t.Fatalf("Climb(%d, %x, %v) is %x, %v, want %x, %v", w, leaves, p, got, e, want, wantE)
	}
}

// Promise 20.4: some that are worked out by hand.
func TestClimbByHand(t *testing.T) {
	a, b, c, d, e, f, g := h(1), h(2), h(3), h(4), h(5), h(6), h(7)
	node := func(l, r api.Hash) api.Hash { return hash.Node(32, l, r) }
	list := func(l ...api.Hash) []api.Hash { return l }
	four := node(node(a, b), node(c, d))
	for _, x := range []struct {
		leaves []api.Hash
		p      api.Reach
		want   []api.Hash
	}{
		{nil, api.Reach{}, nil},
		{nil, api.Reach{Size: 1, Nodes: list(a)}, list(a)},
		{nil, api.Reach{Size: 1, From: 1, To: 1, Nodes: list(a)}, list(a)},
		{list(a), api.Reach{Size: 1, To: 1}, list(a)},
		{list(a, b), api.Reach{Size: 3, To: 2, Nodes: list(c)}, list(node(a, b), c)},
		{list(b, c), api.Reach{Size: 3, From: 1, To: 3, Nodes: list(a)}, list(node(a, b), c)},
		{list(b), api.Reach{Size: 3, From: 1, To: 2, Nodes: list(a, c)}, list(node(a, b), c)},
		{list(b, c), api.Reach{Size: 7, From: 1, To: 3, Nodes: list(a, d, e, f)}, list(four, e, f)},
		{list(d, e), api.Reach{Size: 7, From: 3, To: 5, Nodes: list(b, c, f, g)}, list(node(b, node(c, d)), node(e, f), g)},
		{list(e, f), api.Reach{Size: 7, From: 4, To: 6, Nodes: list(a, g)}, list(a, node(e, f), g)},
		{nil, api.Reach{Size: 7, From: 3, To: 3, Nodes: list(a, b, c)}, list(a, b, c)},
		{list(a, b, c, d, e, f, g), api.Reach{Size: 7, To: 7}, list(four, node(e, f), g)},
	} {
		checkClimb(t, 32, x.leaves, x.p, x.want, api.OK)
	}
}

// Promise 20.4: from any leaves and nodes, of every span of every small size, with all kinds of widths.
func TestClimbOfAllSpans(t *testing.T) {
	for _, w := range widths() {
		for k, r := range spansUpTo(18) {
			p := anyProof(r, uint64(1000+k))
			leaves := hashes(uint64(k), r.long())
			checkClimb(t, w, leaves, p, peaksOf(w, leaves, p), api.OK)
		}
	}
}

// Promise 20.4: sizes up to the greatest one.
func TestClimbOfGreatSizes(t *testing.T) {
	for _, n := range great() {
		for k, r := range shortOf(n) {
			p := anyProof(r, uint64(1000+k))
			leaves := hashes(uint64(k), r.long())
			checkClimb(t, 32, leaves, p, peaksOf(32, leaves, p), api.OK)
		}
	}
}

// Promises 20.4 and 20.7: of a tree's own leaves and nodes follow its peaks, for each size that it has had.
func TestClimbOfTrees(t *testing.T) {
	for _, w := range []int{1, 2, 32} {
		all := hashes(77, 33)
		tree := grown(t, w, all)
		for n := range uint64(34) {
			want := grown(t, w, all[:n]).Peaks()
			for _, r := range spans(n) {
				checkClimb(t, w, r.of(all), mustMake(t, tree, r), want, api.OK)
			}
		}
	}
}

// Promises 20.4 and 20.7: what chapter 10 says of all indices with the same nodes.
func TestClimbLikeMany(t *testing.T) {
	for k, r := range spansUpTo(26) {
		p := anyProof(r, uint64(k))
		leaves := hashes(uint64(5000+k), r.long())
		want, e := many.Climb(31, leaves, api.Many{Size: r.n, Index: r.index(), Nodes: p.Nodes})
		if e != api.OK {
			t.Fatalf("many.Climb of %v is %v", r, e)
		}
		checkClimb(t, 31, leaves, p, want, api.OK)
	}
}

// Promises 20.4 and 20.7: of one leaf, what chapter 8's Climb says of the same nodes, which stand there in another order.
func TestClimbOfOneLeaf(t *testing.T) {
	for n := range uint64(40) {
		for i := range n {
			p := anyProof(reach{i, i + 1, n}, 60)
			want, e := verify.Climb(32, h(99), single(32, hashes(99, 1), p, i))
			if e != api.OK {
				t.Fatalf("verify.Climb of %d of %d is %v", i, n, e)
			}
			checkClimb(t, 32, hashes(99, 1), p, want, api.OK)
		}
	}
}

// Promise 20.4: of all leaves, what they make; of none, wherever that is, the nodes themselves; of the last ones, what they
// and the peaks ahead make.
func TestClimbOfEnds(t *testing.T) {
	for n := range uint64(50) {
		all := hashes(5, int(n))
		want := grown(t, 2, all).Peaks()
		checkClimb(t, 2, all, api.Reach{Size: n, To: n}, want, api.OK)
		peaks := hashes(3, len(peakSpots(n)))
		for m := range n + 1 {
			checkClimb(t, 2, nil, api.Reach{Size: n, From: m, To: m, Nodes: peaks}, peaks, api.OK)
			if m < n {
				ahead := grown(t, 2, all[:m]).Peaks()
				checkClimb(t, 2, all[m:], api.Reach{Size: n, From: m, To: n, Nodes: ahead}, want, api.OK)
			}
		}
	}
	for _, n := range great() {
		peaks := hashes(3, len(peakSpots(n)))
		for _, m := range edgesOf(n) {
			checkClimb(t, 2, nil, api.Reach{Size: n, From: m, To: m, Nodes: peaks}, peaks, api.OK)
		}
	}
}

// Promise 20.4: many leaves.
func TestClimbOfManyLeaves(t *testing.T) {
	const n = 5000
	all := hashes(1, n)
	tree := grown(t, 32, all)
	for _, r := range []reach{{0, n, n}, {1, n - 1, n}, {2047, 4097, n}, {4095, n, n}, {0, 4096, n}} {
		checkClimb(t, 32, r.of(all), mustMake(t, tree, r), tree.Peaks(), api.OK)
	}
}

// Promise 20.4, rule R2: what Encode says of the proof, beside a right and a wrong number of leaves.
func TestClimbOfWrongProofs(t *testing.T) {
	for _, r := range wrongSpans() {
		for count := range 3 {
			for nodes := range 3 {
				checkClimb(t, 32, hashes(6, count), withNodes(r, hashes(1, nodes)), nil, wrongSpan(r))
			}
		}
	}
	// As many leaves as To is above From, of a span that is none; From above To by as many as there are.
	checkClimb(t, 32, hashes(0, 2), api.Reach{Size: 7, From: 6, To: 8, Nodes: hashes(0, 2)}, nil, api.ErrIndex)
	checkClimb(t, 32, hashes(0, 2), api.Reach{Size: most + 1, To: 2, Nodes: hashes(0, 2)}, nil, api.ErrSize)
	checkClimb(t, 32, hashes(0, 2), api.Reach{Size: 7, From: 5, To: 3, Nodes: hashes(0, 2)}, nil, api.ErrIndex)
	checkClimb(t, 32, hashes(0, 2), api.Reach{Size: 7, From: far, To: 1, Nodes: hashes(0, 2)}, nil, api.ErrIndex)
}

// Promise 20.4: another number of nodes than is needed, another number of leaves than the span has.
func TestClimbOfOtherCounts(t *testing.T) {
	for _, r := range spansUpTo(10) {
		right := len(needs(r))
		for nodes := range right + 3 {
			for count := range r.long() + 3 {
				if nodes != right || count != r.long() {
					checkClimb(t, 32, hashes(7, count), withNodes(r, hashes(2, nodes)), nil, api.ErrCount)
				}
			}
		}
	}
	// As many hashes in all, but in the other list.
	checkClimb(t, 32, hashes(0, 3), api.Reach{Size: 3, To: 2}, nil, api.ErrCount)
	checkClimb(t, 32, hashes(0, 1), api.Reach{Size: 3, To: 2, Nodes: hashes(0, 2)}, nil, api.ErrCount)
	checkClimb(t, 32, nil, api.Reach{Size: 1, To: 1}, nil, api.ErrCount)
}

// Promise 20.4: spans with more leaves than any list: they are too few, at once.
func TestClimbOfFewLeaves(t *testing.T) {
	for _, n := range great() {
		for _, r := range someOf(n) {
			if r.to-r.from > 9 {
				p := anyProof(r, 4)
				checkClimb(t, 32, nil, p, nil, api.ErrCount)
				checkClimb(t, 32, hashes(0, 9), p, nil, api.ErrCount)
			}
		}
	}
}

// Rule R3: what is handed in stays as it is, and what lies behind it is neither read nor written; what is answered is
// apart from it and from other answers, also where the peaks are nodes or leaves that were handed in.
func TestClimbedIsNew(t *testing.T) {
	for _, r := range spansUpTo(10) {
		p := anyProof(r, 3)
		leaves := hashes(50, r.long())
		want := peaksOf(2, leaves, p)
		list := behind(leaves, h(1), h(2))
		q := withNodes(r, behind(p.Nodes, h(1), h(2)))
		a, _ := span.Climb(2, list, q)
		b, _ := span.Climb(2, list, q)
		_ = append(a, h(9), h(9))
		clear(a[:cap(a)])
		if !same(q, p) || !slices.Equal(list[:len(list)+2], append(slices.Clone(leaves), h(1), h(2))) || !slices.Equal(q.Nodes[:len(p.Nodes)+2], append(slices.Clone(p.Nodes), h(1), h(2))) {
			t.Fatalf("Climb(%v) has changed what was handed in", p)
		}
		clear(list)
		clear(q.Nodes)
		if !slices.Equal(b, want) {
			t.Fatalf("Climb(%v): %x has become %x", p, want, b)
		}
	}
}
