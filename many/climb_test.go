package many_test

import (
	"slices"
	"testing"

	"massif/api"
	"massif/hash"
	"massif/many"
	"massif/verify"
)

func checkClimb(t *testing.T, w int, leaves []api.Hash, p api.Many, want []api.Hash, wantE api.Errno) {
	t.Helper()
	if got, e := many.Climb(w, leaves, p); !slices.Equal(got, want) || e != wantE {
		t.Fatalf("Climb(%d, %x, %v) is %x, %v, want %x, %v", w, leaves, p, got, e, want, wantE)
	}
}

// Promise 10.5: some that are worked out by hand.
func TestClimbByHand(t *testing.T) {
	a, b, c, d, e := h(1), h(2), h(3), h(4), h(5)
	node := func(l, r api.Hash) api.Hash { return hash.Node(32, l, r) }
	for _, x := range []struct {
		leaves []api.Hash
		p      api.Many
		want   []api.Hash
	}{
		{nil, api.Many{}, nil},
		{nil, api.Many{Size: 1, Nodes: []api.Hash{a}}, []api.Hash{a}},
		{[]api.Hash{a}, api.Many{Size: 1, Index: []uint64{0}}, []api.Hash{a}},
		{[]api.Hash{a, c}, api.Many{Size: 3, Index: []uint64{0, 2}, Nodes: []api.Hash{b}}, []api.Hash{node(a, b), c}},
		{[]api.Hash{b}, api.Many{Size: 3, Index: []uint64{1}, Nodes: []api.Hash{a, c}}, []api.Hash{node(a, b), c}},
		{[]api.Hash{a, b, c}, api.Many{Size: 3, Index: []uint64{0, 1, 2}}, []api.Hash{node(a, b), c}},
		{[]api.Hash{b, c}, api.Many{Size: 7, Index: []uint64{1, 2}, Nodes: []api.Hash{a, d, e, h(6)}}, []api.Hash{node(node(a, b), node(c, d)), e, h(6)}},
		{nil, api.Many{Size: 7, Nodes: []api.Hash{a, b, c}}, []api.Hash{a, b, c}},
		{[]api.Hash{a}, api.Many{Size: 7, Index: []uint64{5}, Nodes: []api.Hash{b, c, d}}, []api.Hash{b, node(c, a), d}},
	} {
		checkClimb(t, 32, x.leaves, x.p, x.want, api.OK)
	}
}

// Promise 10.5: from any leaves and nodes, of all sets of leaves of all small sizes, with all kinds of widths.
func TestClimbOfAllSets(t *testing.T) {
	for _, w := range widths() {
		for n := range uint64(9) {
			for k, index := range sets(n) {
				p := anyProof(index, n, uint64(1000+k))
				leaves := hashes(uint64(k), len(index))
				checkClimb(t, w, leaves, p, peaksOf(w, leaves, p), api.OK)
			}
		}
	}
}

// Promise 10.5: sizes up to the greatest one.
func TestClimbOfGreatSizes(t *testing.T) {
	d := dice(9)
	for _, n := range great() {
		for k, index := range someOf(n, &d) {
			p := anyProof(index, n, uint64(1000+k))
			leaves := hashes(uint64(k), len(index))
			checkClimb(t, 32, leaves, p, peaksOf(32, leaves, p), api.OK)
		}
	}
}

// Promise 10.5: of a tree's own leaves and nodes follow its peaks, for each size that it has had.
func TestClimbOfTrees(t *testing.T) {
	for _, w := range []int{1, 2, 32} {
		all := hashes(77, 9)
		tree := grown(t, w, all)
		for n := range uint64(10) {
			want := grown(t, w, all[:n]).Peaks()
			for _, index := range sets(n) {
				p, e := many.Make(tree, index, n)
				if e != api.OK {
					t.Fatalf("Make(%v, %d) is %v", index, n, e)
				}
				checkClimb(t, w, pick(all, index), p, want, api.OK)
			}
		}
	}
}

// Promises 10.5 and 10.8: of one leaf, what chapter 8's Climb says of the same nodes, which stand there in another order.
func TestClimbOfOneLeaf(t *testing.T) {
	for n := range uint64(40) {
		all := hashes(8, int(n))
		tree := grown(t, 32, all)
		for i := range n {
			p, _ := many.Make(tree, []uint64{i}, n)
			single := api.Proof{Size: n, Index: i}
			for s := at(0, i); has(parent(s), n); s = parent(s) {
				x, _ := tree.Node(place(api.Spot{Height: s.Height, Index: s.Index ^ 1}))
				single.Nodes = append(single.Nodes, x)
			}
			for _, s := range peakSpots(n) {
				if !over(s, []uint64{i}) {
					x, _ := tree.Node(place(s))
					single.Nodes = append(single.Nodes, x)
				}
			}
			want, e := verify.Climb(32, h(99), single)
			if e != api.OK {
				t.Fatalf("verify.Climb of %d of %d is %v", i, n, e)
			}
			checkClimb(t, 32, []api.Hash{h(99)}, p, want, api.OK)
		}
	}
}

// Promise 10.5: of all leaves, what they make; of none, the nodes themselves.
func TestClimbOfAllAndNone(t *testing.T) {
	for n := range uint64(70) {
		all := hashes(5, int(n))
		checkClimb(t, 2, all, api.Many{Size: n, Index: from(0, n)}, grown(t, 2, all).Peaks(), api.OK)
		peaks := hashes(3, len(peakSpots(n)))
		checkClimb(t, 2, nil, api.Many{Size: n, Nodes: peaks}, peaks, api.OK)
	}
}

// Promise 10.5, rule R2: what Encode says of the proof, beside a right and a wrong number of leaves; then another number
// of leaves.
func TestClimbOfWrongProofs(t *testing.T) {
	for count := range 4 {
		leaves := hashes(6, count)
		for _, n := range append([]uint64{0, 1, 2, 7, most}, beyond()...) {
			for _, index := range [][]uint64{nil, {1, 1}, {2, 1}, {n}, {0, n}, {far}, {0, far, 1}, {far, far}, {n, 0}} {
				if e := wrongIndex(index, n); e != api.OK {
					for nodes := range 4 {
						checkClimb(t, 32, leaves, api.Many{Size: n, Index: index, Nodes: hashes(1, nodes)}, nil, e)
					}
				}
			}
		}
	}
	for n := range uint64(6) {
		for _, index := range sets(n) {
			right := len(needs(index, n))
			for nodes := range right + 3 {
				for count := range len(index) + 3 {
					if nodes != right || count != len(index) {
						p := api.Many{Size: n, Index: index, Nodes: hashes(2, nodes)}
						checkClimb(t, 32, hashes(7, count), p, nil, api.ErrCount)
					}
				}
			}
		}
	}
	// As many hashes in all, but in the other list.
	checkClimb(t, 32, hashes(0, 3), api.Many{Size: 3, Index: []uint64{0, 2}}, nil, api.ErrCount)
	checkClimb(t, 32, hashes(0, 1), api.Many{Size: 3, Index: []uint64{0, 2}, Nodes: hashes(0, 2)}, nil, api.ErrCount)
	checkClimb(t, 32, nil, api.Many{Size: 1, Index: []uint64{0}}, nil, api.ErrCount)
}

// Rule R3: what is handed in stays as it is, and what lies behind it is neither read nor written; what is answered is
// apart from it and from other answers, also where the peaks are nodes or leaves that were handed in.
func TestClimbedIsNew(t *testing.T) {
	for n := range uint64(8) {
		for _, index := range sets(n) {
			p := anyProof(index, n, 3)
			leaves := hashes(50, len(index))
			want := peaksOf(2, leaves, p)
			list := behind(leaves, h(1), h(2))
			q := api.Many{Size: n, Index: behind(index, 1, far), Nodes: behind(p.Nodes, h(1), h(2))}
			a, _ := many.Climb(2, list, q)
			b, _ := many.Climb(2, list, q)
			_ = append(a, h(9), h(9))
			clear(a[:cap(a)])
			if !same(q, p) || !slices.Equal(list[:len(list)+2], append(slices.Clone(leaves), h(1), h(2))) || !slices.Equal(q.Index[:len(index)+2], append(slices.Clone(index), 1, far)) || !slices.Equal(q.Nodes[:len(p.Nodes)+2], append(slices.Clone(p.Nodes), h(1), h(2))) {
				t.Fatalf("Climb(%v) has changed what was handed in", p)
			}
			clear(list)
			clear(q.Nodes)
			if !slices.Equal(b, want) {
				t.Fatalf("Climb(%v): %x has become %x", p, want, b)
			}
		}
	}
}
