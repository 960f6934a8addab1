package many_test

import (
	"slices"
	"testing"

	"massif/api"
	"massif/many"
	"massif/proof"
)

// spy is a source that writes down what it was asked.
type spy struct {
	asked   []uint64
	refused map[uint64]api.Errno
}

func (s *spy) Node(p uint64) (api.Hash, api.Errno) {
	s.asked = append(s.asked, p)
	if e, ok := s.refused[p]; ok {
		return api.Hash{1, 2, 3}, e // a hash beside an error means nothing
	}
	return h(p), api.OK
}

// told are the hashes that a spy tells of these places.
func told(places []uint64) []api.Hash {
	var l []api.Hash
	for _, p := range places {
		l = append(l, h(p))
	}
	return l
}

func checkMake(t *testing.T, s proof.Source, index []uint64, n uint64, want api.Many, wantE api.Errno) {
	t.Helper()
	if got, e := many.Make(s, index, n); !same(got, want) || e != wantE {
		t.Fatalf("Make(%v, %d) is %v, %v, want %v, %v", index, n, got, e, want, wantE)
	}
}

// checkAsked holds what a source was asked against the places, one by one.
func checkAsked(t *testing.T, s *spy, want []uint64) {
	t.Helper()
	if !slices.Equal(s.asked, want) {
		t.Fatalf("asked for %v, want %v", s.asked, want)
	}
	s.asked = nil
}

// Promise 10.3: the source is asked for the places, rising; what it tells stands in Nodes.
func TestMakeAsks(t *testing.T) {
	s := &spy{}
	for n := range uint64(10) {
		for _, index := range sets(n) {
			places := needs(index, n)
			checkMake(t, s, index, n, api.Many{Size: n, Index: index, Nodes: told(places)}, api.OK)
			checkAsked(t, s, places)
		}
	}
	d := dice(5)
	for _, n := range great() {
		for _, index := range someOf(n, &d) {
			places := placesOf(needSpots(index, n))
			checkMake(t, s, index, n, api.Many{Size: n, Index: index, Nodes: told(places)}, api.OK)
			checkAsked(t, s, places)
		}
	}
}

// Promise 10.3: what the source says of the first place that it refuses, whatever it would say of those behind.
func TestMakeRefused(t *testing.T) {
	errors := []api.Errno{api.ErrPruned, api.ErrPlace, api.ErrArg, api.ErrIndex, api.ErrOrder, -1, 12345}
	for n := range uint64(9) {
		for _, index := range sets(n) {
			places := needs(index, n)
			for k, p := range places {
				e := errors[(k+int(n))%len(errors)]
				s := &spy{refused: map[uint64]api.Errno{p: e}}
				checkMake(t, s, index, n, api.Many{}, e)
				checkAsked(t, s, places[:k+1])
				for _, later := range places[k+1:] {
					s.refused[later] = api.ErrLate
				}
				checkMake(t, s, index, n, api.Many{}, e)
				checkAsked(t, s, places[:k+1])
			}
		}
	}
}

// Promise 10.3: a source that refuses all but what is needed.
func TestMakeAsksForNothingElse(t *testing.T) {
	const n = 9
	for _, index := range sets(n) {
		places := needs(index, n)
		s := &spy{refused: map[uint64]api.Errno{}}
		for p := range uint64(2 * n) {
			if !slices.Contains(places, p) {
				s.refused[p] = api.ErrPruned
			}
		}
		checkMake(t, s, index, n, api.Many{Size: n, Index: index, Nodes: told(places)}, api.OK)
	}
}

// Promise 10.3, rule R2: Places' errors, and that nobody is asked beside them; nor is anybody where nothing is needed.
func TestMakeOfNone(t *testing.T) {
	s := &spy{refused: map[uint64]api.Errno{0: api.ErrPruned, 1: api.ErrPruned}}
	for _, n := range append([]uint64{0, 1, 2, 7, most}, beyond()...) {
		for _, index := range [][]uint64{{1, 1}, {2, 1}, {n}, {0, n}, {far}, {0, far, 1}, {far, far}} {
			if e := wrongIndex(index, n); e != api.OK {
				checkMake(t, s, index, n, api.Many{}, e)
				checkMake(t, nil, index, n, api.Many{}, e)
			}
		}
	}
	for n := range uint64(20) {
		checkMake(t, s, from(0, n), n, api.Many{Size: n, Index: from(0, n)}, api.OK)
		checkMake(t, nil, from(0, n), n, api.Many{Size: n, Index: from(0, n)}, api.OK)
	}
	checkAsked(t, s, nil)
}

// Promise 10.3: of a tree, all sets of leaves of all sizes up to its own; sizes above it are refused by the tree.
func TestMakeOfTrees(t *testing.T) {
	for _, w := range []int{1, 32} {
		tree := grown(t, w, hashes(9, 9))
		for n := range uint64(10) {
			for _, index := range sets(n) {
				want := api.Many{Size: n, Index: index}
				for _, p := range needs(index, n) {
					x, _ := tree.Node(p)
					want.Nodes = append(want.Nodes, x)
				}
				checkMake(t, tree, index, n, want, api.OK)
			}
		}
		checkMake(t, tree, []uint64{0}, 10, api.Many{}, api.ErrPlace)
		checkMake(t, tree, nil, 16, api.Many{}, api.ErrPlace)
	}
}

// Promise 10.3: of a tree of which some nodes live no more: refused just where one of them is needed.
func TestMakeOfPrunedTrees(t *testing.T) {
	const n = 7
	for gone := range uint64(11) {
		tree := grown(t, 32, hashes(9, n))
		if e := tree.Store().Drop(gone); e != api.OK {
			t.Fatalf("Drop(%d) is %v", gone, e)
		}
		for _, index := range sets(n) {
			p, e := many.Make(tree, index, n)
			if slices.Contains(needs(index, n), gone) {
				if e != api.ErrPruned || !same(p, api.Many{}) {
					t.Fatalf("Make(%v) without %d is %v, %v", index, gone, p, e)
				}
			} else if e != api.OK || len(p.Nodes) != len(needs(index, n)) {
				t.Fatalf("Make(%v) without %d is %v, %v", index, gone, p, e)
			}
		}
	}
}

// Rule R3: what is made shares nothing with what was handed in, nor with what else is made; what lies behind the indices
// is neither read nor written.
func TestMadeIsNew(t *testing.T) {
	for n := uint64(1); n < 8; n++ {
		for _, index := range sets(n) {
			list := behind(index, 3, 2, far)
			want := api.Many{Size: n, Index: index, Nodes: told(needs(index, n))}
			a, _ := many.Make(&spy{}, list, n)
			b, _ := many.Make(&spy{}, list, n)
			if !slices.Equal(list[:len(list)+3], append(slices.Clone(index), 3, 2, far)) {
				t.Fatalf("%v is changed: %v", index, list[:len(list)+3])
			}
			_, _ = append(a.Index, far, far), append(a.Nodes, h(1), h(2))
			clear(a.Index[:cap(a.Index)])
			clear(a.Nodes[:cap(a.Nodes)])
			if !slices.Equal(list[:len(list)+3], append(slices.Clone(index), 3, 2, far)) {
				t.Fatalf("%v shares memory with what is made of it: %v", index, list[:len(list)+3])
			}
			clear(list[:cap(list)])
			if !same(b, want) {
				t.Fatalf("Make(%v, %d): %v has become %v", index, n, want, b)
			}
		}
	}
}
