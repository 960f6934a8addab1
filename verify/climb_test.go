package verify_test

import (
	"slices"
	"testing"

	"massif/api"
	"massif/hash"
	"massif/proof"
	"massif/verify"
)

func checkClimb(t *testing.T, w int, leaf api.Hash, p api.Proof, want []api.Hash, wantE api.Errno) {
	t.Helper()
	if got, e := verify.Climb(w, leaf, p); !slices.Equal(got, want) || e != wantE {
		t.Fatalf("Climb(%d, {%d, %d, %d nodes}) is %x, %v, want %x, %v", w, p.Size, p.Index, len(p.Nodes), got, e, want, wantE)
	}
}

// The examples of chapter 8.
func TestClimbExamples(t *testing.T) {
	a, b, c, x := h(1), h(2), h(3), h(4)
	checkClimb(t, 32, b, api.Proof{Size: 3, Index: 1, Nodes: []api.Hash{a, c}}, []api.Hash{hash.Node(32, a, b), c}, api.OK)
	checkClimb(t, 32, c, api.Proof{Size: 3, Index: 2, Nodes: []api.Hash{x}}, []api.Hash{x, c}, api.OK)
	checkClimb(t, 32, c, api.Proof{Size: 3, Index: 2}, nil, api.ErrCount)
	checkClimb(t, 32, c, api.Proof{Size: 3, Index: 3}, nil, api.ErrIndex)
	checkClimb(t, 32, c, api.Proof{Size: 3, Index: 3, Nodes: []api.Hash{x}}, nil, api.ErrIndex)
}

// Promise 8.1: the peaks of every small forest, from each of its leaves, held against hashes that are worked out from all
// leaves anew.
func TestClimbOfForests(t *testing.T) {
	for _, w := range widths() {
		for n := 1; n <= some; n++ {
			leaves := hashes(uint64(n), n)
			all := rows(w, leaves)
			size := uint64(n)
			for i := range size {
				p := api.Proof{Size: size, Index: i, Nodes: pick(all, memberSpots(i, size))}
				checkClimb(t, w, leaves[i], p, pick(all, peakSpots(size)), api.OK)
			}
		}
	}
}

// Promise 8.1: whatever the nodes are, what follows from them; with every byte of the leaf and of the nodes, behind the
// width too.
func TestClimbOfAnyNodes(t *testing.T) {
	var first uint64
	for n := uint64(1); n <= 130; n++ {
		for i := range n {
			first += 7
			p := api.Proof{Size: n, Index: i, Nodes: hashes(first, len(memberSpots(i, n)))}
			for _, w := range []int{1, 32} {
				checkClimb(t, w, h(first+5000), p, climbOf(w, h(first+5000), p), api.OK)
			}
		}
	}
	for _, n := range great() {
		for _, i := range within(n) {
			first += 7
			p := api.Proof{Size: n, Index: i, Nodes: hashes(first, len(memberSpots(i, n)))}
			checkClimb(t, 32, h(first+5000), p, climbOf(32, h(first+5000), p), api.OK)
		}
	}
}

// Promise 8.1: nodes that are all one hash, the leaf's, are told from each other by where they stand alone.
func TestClimbOfOneHash(t *testing.T) {
	for n := uint64(1); n <= some; n++ {
		for i := range n {
			p := api.Proof{Size: n, Index: i, Nodes: slices.Repeat([]api.Hash{h(9)}, len(memberSpots(i, n)))}
			checkClimb(t, 32, h(9), p, climbOf(32, h(9), p), api.OK)
			p.Nodes = make([]api.Hash, len(p.Nodes))
			checkClimb(t, 32, api.Hash{}, p, climbOf(32, api.Hash{}, p), api.OK)
		}
	}
}

// Promise 8.6: with one leaf the one peak is the leaf, taken as it is.
func TestClimbOfOneLeaf(t *testing.T) {
	for _, w := range widths() {
		for k := range uint64(9) {
			checkClimb(t, w, h(k), api.Proof{Size: 1}, []api.Hash{h(k)}, api.OK)
		}
	}
	checkClimb(t, 32, h(1), api.Proof{Size: 1, Nodes: hashes(0, 1)}, nil, api.ErrCount)
	checkClimb(t, 32, h(1), api.Proof{Size: 1, Index: 1}, nil, api.ErrIndex)
}

// Promise 8.1: what Encode says of a proof, beside every number of nodes; the first of its errors.
func TestClimbRefused(t *testing.T) {
	counts := []int{0, 1, 2, 3, 61, 62, 63, 64, 65, 130}
	sizes := append([]uint64{0, 1, 2, 3, 7, 8, 21, most - 1, most}, beyond()...)
	for _, n := range sizes {
		for _, i := range append([]uint64{0, 1, n / 2, n - 1, n, n + 1}, beyond()...) {
			for _, k := range counts {
				want := api.OK
				switch {
				case n > most:
					want = api.ErrSize
				case i >= n:
					want = api.ErrIndex
				case k != len(memberSpots(i, n)):
					want = api.ErrCount
				default:
					continue
				}
				p := api.Proof{Size: n, Index: i, Nodes: hashes(0, k)}
				if _, e := proof.Encode(p); e != want {
					t.Fatalf("Encode{%d, %d, %d nodes} is %v, want %v", n, i, k, e, want)
				}
				checkClimb(t, 32, h(1), p, nil, want)
			}
		}
	}
}

// Promise 8.1: one node too few and one too many, at every small size and at great ones.
func TestClimbCounts(t *testing.T) {
	sizes := great()
	for n := uint64(1); n <= some; n++ {
		sizes = append(sizes, n)
	}
	for _, n := range sizes {
		for _, i := range within(n) {
			k := len(memberSpots(i, n))
			if k > 0 {
				checkClimb(t, 32, h(1), api.Proof{Size: n, Index: i, Nodes: hashes(0, k-1)}, nil, api.ErrCount)
			}
			checkClimb(t, 32, h(1), api.Proof{Size: n, Index: i, Nodes: hashes(0, k+1)}, nil, api.ErrCount)
		}
		checkClimb(t, 32, h(1), api.Proof{Size: n, Index: n, Nodes: hashes(0, 1)}, nil, api.ErrIndex)
	}
}

// Rule R3: what is handed in is not changed, what lies behind a list's length neither read nor written, and an answer is
// new.
func TestClimbSharesNothing(t *testing.T) {
	for n := uint64(1); n <= some; n++ {
		for i := range n {
			k := len(memberSpots(i, n))
			room := hashes(100, k+3)
			p := api.Proof{Size: n, Index: i, Nodes: room[:k]}
			want := climbOf(32, h(1), p)
			checkClimb(t, 32, h(1), p, want, api.OK)
			a, _ := verify.Climb(32, h(1), p)
			b, _ := verify.Climb(32, h(1), p)
			clear(a[:cap(a)])
			if !slices.Equal(b, want) || !slices.Equal(room, hashes(100, k+3)) {
				t.Fatalf("Climb{%d, %d}: an answer or what was handed in has changed", n, i)
			}
			checkClimb(t, 32, h(1), p, want, api.OK)
			p.Nodes = room[: k-min(k, 1) : k+3] // the node that it lacks lies behind its length
			if k > 0 {
				checkClimb(t, 32, h(1), p, nil, api.ErrCount)
			}
			clear(room)
			if !slices.Equal(b, want) {
				t.Fatalf("Climb{%d, %d}: the answer changes with what was handed in", n, i)
			}
		}
	}
}
