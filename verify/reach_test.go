package verify_test

import (
	"slices"
	"testing"

	"massif/api"
	"massif/hash"
	"massif/proof"
	"massif/verify"
)

func checkReach(t *testing.T, w int, p api.Prefix, first, second []api.Hash, wantE api.Errno) {
	t.Helper()
	a, b, e := verify.Reach(w, p)
	if !slices.Equal(a, first) || !slices.Equal(b, second) || e != wantE {
		t.Fatalf("Reach(%d, {%d, %d, %d nodes}) is %x, %x, %v, want %x, %x, %v", w, p.From, p.Size, len(p.Nodes), a, b, e, first, second, wantE)
	}
}

// The example of chapter 8, and some more.
func TestReachExamples(t *testing.T) {
	a, b, c := h(1), h(2), h(3)
	ab := hash.Node(32, a, b)
	checkReach(t, 32, api.Prefix{From: 1, Size: 3, Nodes: []api.Hash{a, b, c}}, []api.Hash{a}, []api.Hash{ab, c}, api.OK)
	checkReach(t, 32, api.Prefix{From: 2, Size: 3, Nodes: []api.Hash{a, b}}, []api.Hash{a}, []api.Hash{a, b}, api.OK)
	checkReach(t, 32, api.Prefix{From: 3, Size: 4, Nodes: []api.Hash{a, b, c}}, []api.Hash{a, b}, []api.Hash{hash.Node(32, a, hash.Node(32, b, c))}, api.OK)
	checkReach(t, 32, api.Prefix{}, nil, nil, api.OK)
	checkReach(t, 32, api.Prefix{From: 1, Size: 3, Nodes: []api.Hash{a, b}}, nil, nil, api.ErrCount)
	checkReach(t, 32, api.Prefix{From: 4, Size: 3}, nil, nil, api.ErrSize)
}

// Promise 8.3: the peaks of every small forest and of each of its beginnings, held against hashes that are worked out from
// all leaves anew.
func TestReachOfForests(t *testing.T) {
	for _, w := range widths() {
		for n := range uint64(some + 1) {
			all := rows(w, hashes(n, int(n)))
			for m := range n + 1 {
				p := api.Prefix{From: m, Size: n, Nodes: pick(all, prefixSpots(m, n))}
				checkReach(t, w, p, pick(all, peakSpots(m)), pick(all, peakSpots(n)), api.OK)
			}
		}
	}
}

// Promise 8.3: whatever the nodes are, what follows from them, in whatever order neighbours are put together.
func TestReachOfAnyNodes(t *testing.T) {
	var d dice
	var first uint64
	check := func(w int, m, n uint64) {
		t.Helper()
		first += 7
		p := api.Prefix{From: m, Size: n, Nodes: hashes(first, len(prefixSpots(m, n)))}
		a, b := reachOf(w, p, &d)
		checkReach(t, w, p, a, b, api.OK)
	}
	for n := range uint64(131) {
		for m := range n + 1 {
			check(1, m, n)
			check(32, m, n)
		}
	}
	for _, n := range great() {
		for _, m := range append(within(n), n) {
			check(32, m, n)
		}
	}
}

// Promise 8.3: nodes that are all one hash are told from each other by where they stand alone.
func TestReachOfOneHash(t *testing.T) {
	var d dice
	for n := range uint64(some + 1) {
		for m := range n + 1 {
			for _, x := range []api.Hash{h(9), {}} {
				p := api.Prefix{From: m, Size: n, Nodes: slices.Repeat([]api.Hash{x}, len(prefixSpots(m, n)))}
				a, b := reachOf(32, p, &d)
				checkReach(t, 32, p, a, b, api.OK)
			}
		}
	}
}

// Promise 8.6: where From is Size the lists are the same; they are the nodes. Where it is 0 the first one is empty, the
// second one the nodes.
func TestReachOfEnds(t *testing.T) {
	sizes := great()
	for n := range uint64(some + 1) {
		sizes = append(sizes, n)
	}
	for _, n := range sizes {
		nodes := hashes(n, len(peakSpots(n)))
		checkReach(t, 32, api.Prefix{From: n, Size: n, Nodes: nodes}, nodes, nodes, api.OK)
		checkReach(t, 32, api.Prefix{Size: n, Nodes: nodes}, nil, nodes, api.OK)
	}
}

// Promise 8.3: what EncodePrefix says of a proof, beside every number of nodes; the first of its errors.
func TestReachRefused(t *testing.T) {
	counts := []int{0, 1, 2, 3, 61, 62, 63, 64, 65, 130}
	sizes := append([]uint64{0, 1, 2, 3, 7, 8, 21, most - 1, most}, beyond()...)
	for _, n := range sizes {
		for _, m := range append([]uint64{0, 1, n / 2, n - 1, n, n + 1}, beyond()...) {
			for _, k := range counts {
				want := api.OK
				switch {
				case n > most || m > n:
					want = api.ErrSize
				case k != len(prefixSpots(m, n)):
					want = api.ErrCount
				default:
					continue
				}
				p := api.Prefix{From: m, Size: n, Nodes: hashes(0, k)}
				if _, e := proof.EncodePrefix(p); e != want {
					t.Fatalf("EncodePrefix{%d, %d, %d nodes} is %v, want %v", m, n, k, e, want)
				}
				checkReach(t, 32, p, nil, nil, want)
			}
		}
	}
}

// Promise 8.3: one node too few and one too many, at every small size and at great ones.
func TestReachCounts(t *testing.T) {
	sizes := great()
	for n := range uint64(some + 1) {
		sizes = append(sizes, n)
	}
	for _, n := range sizes {
		for _, m := range append(within(n), n) {
			k := len(prefixSpots(m, n))
			if k > 0 {
				checkReach(t, 32, api.Prefix{From: m, Size: n, Nodes: hashes(0, k-1)}, nil, nil, api.ErrCount)
			}
			checkReach(t, 32, api.Prefix{From: m, Size: n, Nodes: hashes(0, k+1)}, nil, nil, api.ErrCount)
		}
		checkReach(t, 32, api.Prefix{From: n + 1, Size: n, Nodes: hashes(0, 1)}, nil, nil, api.ErrSize)
	}
}

// Rule R3: what is handed in is not changed, what lies behind a list's length neither read nor written, and the two lists
// are new and apart, with their spare room.
func TestReachSharesNothing(t *testing.T) {
	var d dice
	for n := range uint64(some + 1) {
		for m := range n + 1 {
			k := len(prefixSpots(m, n))
			room := hashes(100, k+3)
			p := api.Prefix{From: m, Size: n, Nodes: room[:k]}
			first, second := reachOf(32, p, &d)
			a, b, _ := verify.Reach(32, p)
			x, y, _ := verify.Reach(32, p)
			clear(a[:cap(a)])
			if !slices.Equal(b, second) || !slices.Equal(x, first) || !slices.Equal(y, second) {
				t.Fatalf("Reach{%d, %d}: a list changes with the first one", m, n)
			}
			clear(y[:cap(y)])
			if !slices.Equal(b, second) || !slices.Equal(x, first) {
				t.Fatalf("Reach{%d, %d}: a list changes with the second one", m, n)
			}
			if !slices.Equal(room, hashes(100, k+3)) {
				t.Fatalf("Reach{%d, %d}: what was handed in has changed", m, n)
			}
			checkReach(t, 32, p, first, second, api.OK)
			if k > 0 {
				p.Nodes = room[:k-1] // the node that it lacks lies behind its length
				checkReach(t, 32, p, nil, nil, api.ErrCount)
			}
			clear(room)
			if !slices.Equal(x, first) || !slices.Equal(b, second) {
				t.Fatalf("Reach{%d, %d}: a list changes with what was handed in", m, n)
			}
		}
	}
}
