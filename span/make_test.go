package span_test

import (
	"slices"
	"testing"

	"massif/api"
	"massif/proof"
	"massif/span"
)

// spy is a source that writes down what it was asked.
type spy struct {
	asked   []uint64
	refused map[uint64]api.Errno
}

func (s *spy) Node(p uint64) (api.Hash, api.Errno) {
	s.asked = append(s.asked, p)
	if e, ok := s.refused[p]; ok {
		return api.Hash{1, 2, 3}, e // a hash beside an error means nothing
	}
	return h(p), api.OK
}

// told are the hashes that a spy tells of these places.
func told(places []uint64) []api.Hash {
	var l []api.Hash
	for _, p := range places {
		l = append(l, h(p))
	}
	return l
}

func checkMake(t *testing.T, s proof.Source, r reach, want api.Reach, wantE api.Errno) {
	t.Helper()
	if got, e := span.Make(s, r.from, r.to, r.n); !same(got, want) || e != wantE {
		t.Fatalf("Make(%v) is %v, %v, want %v, %v", r, got, e, want, wantE)
	}
}

// checkAsked holds what a source was asked against the places, one by one.
func checkAsked(t *testing.T, s *spy, want []uint64) {
	t.Helper()
	if !slices.Equal(s.asked, want) {
		t.Fatalf("asked for %v, want %v", s.asked, want)
	}
	s.asked = nil
}

// Promise 20.2: the source is asked for each place once, rising; what it tells stands in Nodes.
func TestMakeAsks(t *testing.T) {
	s := &spy{}
	for _, r := range spansUpTo(26) {
		places := needs(r)
		checkMake(t, s, r, withNodes(r, told(places)), api.OK)
		checkAsked(t, s, places)
	}
	for _, n := range great() {
		for _, r := range someOf(n) {
			places := placesOf(r)
			checkMake(t, s, r, withNodes(r, told(places)), api.OK)
			checkAsked(t, s, places)
		}
	}
}

// Promise 20.2: what the source says of the first place that it refuses, whatever it would say of those behind; it is not
// asked for those.
func TestMakeRefused(t *testing.T) {
	errors := []api.Errno{api.ErrPruned, api.ErrPlace, api.ErrArg, api.ErrIndex, api.ErrSize, -1, 12345}
	for _, r := range spansUpTo(18) {
		places := needs(r)
		for k, p := range places {
			e := errors[(k+int(r.n))%len(errors)]
			s := &spy{refused: map[uint64]api.Errno{p: e}}
			checkMake(t, s, r, api.Reach{}, e)
			checkAsked(t, s, places[:k+1])
			for _, later := range places[k+1:] {
				s.refused[later] = api.ErrLate
			}
			checkMake(t, s, r, api.Reach{}, e)
			checkAsked(t, s, places[:k+1])
		}
	}
}

// Promise 20.2: a source that refuses all but what is needed.
func TestMakeAsksForNothingElse(t *testing.T) {
	for _, r := range spansUpTo(20) {
		places := needs(r)
		s := &spy{refused: map[uint64]api.Errno{}}
		for p := range 2 * r.n {
			if !slices.Contains(places, p) {
				s.refused[p] = api.ErrPruned
			}
		}
		checkMake(t, s, r, withNodes(r, told(places)), api.OK)
	}
}

// Promise 20.2, rule R2: Places' errors, and that nobody is asked beside them; nor is anybody where nothing is needed.
func TestMakeOfNone(t *testing.T) {
	s := &spy{refused: map[uint64]api.Errno{0: api.ErrPruned, 1: api.ErrPruned}}
	for _, r := range wrongSpans() {
		checkMake(t, s, r, api.Reach{}, wrongSpan(r))
		checkMake(t, nil, r, api.Reach{}, wrongSpan(r))
	}
	for _, n := range append(great(), 0, 1, 2, 3, 4, 5, 6, 7, 8) {
		checkMake(t, s, reach{0, n, n}, api.Reach{Size: n, To: n}, api.OK)
		checkMake(t, nil, reach{0, n, n}, api.Reach{Size: n, To: n}, api.OK)
	}
	checkAsked(t, s, nil)
}

// Promise 20.2: of a tree, every span of every size up to its own; sizes above it are refused by the tree.
func TestMakeOfTrees(t *testing.T) {
	for _, w := range []int{1, 32} {
		tree := grown(t, w, hashes(9, 33))
		for _, r := range spansUpTo(34) {
			var nodes []api.Hash
			for _, p := range needs(r) {
				x, _ := tree.Node(p)
				nodes = append(nodes, x)
			}
			checkMake(t, tree, r, withNodes(r, nodes), api.OK)
		}
		checkMake(t, tree, reach{0, 1, 34}, api.Reach{}, api.ErrPlace)
		checkMake(t, tree, reach{7, 7, 64}, api.Reach{}, api.ErrPlace)
	}
}

// Promise 20.2: of a tree of which one node lives no more: refused just where it is needed.
func TestMakeOfTreesWithGaps(t *testing.T) {
	const n = 15
	for gone := range uint64(len(made(n))) {
		tree := grown(t, 32, hashes(9, n))
		if e := tree.Store().Drop(gone); e != api.OK {
			t.Fatalf("Drop(%d) is %v", gone, e)
		}
		for _, r := range spans(n) {
			p, e := span.Make(tree, r.from, r.to, n)
			if slices.Contains(needs(r), gone) {
				if e != api.ErrPruned || !same(p, api.Reach{}) {
					t.Fatalf("Make(%v) without %d is %v, %v", r, gone, p, e)
				}
			} else if e != api.OK || len(p.Nodes) != len(needs(r)) {
				t.Fatalf("Make(%v) without %d is %v, %v", r, gone, p, e)
			}
		}
	}
}

// Promise 20.2: of a tree of which nothing lives but what one span needs: that one is made still, and all others that
// need no more.
func TestMakeOfSweptTrees(t *testing.T) {
	const n = 13
	for _, kept := range spans(n) {
		tree := grown(t, 2, hashes(9, n))
		tree.Store().Sweep(needs(kept))
		for _, r := range spans(n) {
			want := api.OK
			for _, p := range needs(r) {
				if !slices.Contains(needs(kept), p) {
					want = api.ErrPruned
				}
			}
			if _, e := span.Make(tree, r.from, r.to, n); e != want {
				t.Fatalf("Make(%v) with what %v needs is %v, want %v", r, kept, e, want)
			}
		}
	}
}

// Rule R3: what is made shares nothing with what else is made, its spare room neither.
func TestMadeIsNew(t *testing.T) {
	for _, r := range spansUpTo(12) {
		want := withNodes(r, told(needs(r)))
		a, _ := span.Make(&spy{}, r.from, r.to, r.n)
		b, _ := span.Make(&spy{}, r.from, r.to, r.n)
		_ = append(a.Nodes, h(1), h(2))
		clear(a.Nodes[:cap(a.Nodes)])
		if !same(b, want) {
			t.Fatalf("Make(%v): %v has become %v", r, want, b)
		}
	}
	tree := grown(t, 32, hashes(9, 9))
	for _, r := range spans(9) {
		root := tree.Root()
		p := mustMake(t, tree, r)
		clear(p.Nodes[:cap(p.Nodes)])
		if tree.Root() != root || !same(mustMake(t, tree, r), mustMake(t, grown(t, 32, hashes(9, 9)), r)) {
			t.Fatalf("what was made of %v is the tree's own", r)
		}
	}
}
