package proof_test

import (
	"slices"
	"testing"

	"massif/api"
	"massif/hash"
	"massif/proof"
)

// spy is a source that writes down what it was asked.
type spy struct {
	asked   []uint64
	refused map[uint64]api.Errno
}

func (s *spy) Node(p uint64) (api.Hash, api.Errno) {
	s.asked = append(s.asked, p)
	if e, ok := s.refused[p]; ok {
		return api.Hash{1, 2, 3}, e // a hash beside an error means nothing
	}
	return h(p), api.OK
}

// told are the hashes that a spy tells of these places.
func told(places []uint64) []api.Hash {
	var l []api.Hash
	for _, p := range places {
		l = append(l, h(p))
	}
	return l
}

func checkMake(t *testing.T, s proof.Source, i, n uint64, want api.Proof, wantE api.Errno) {
	t.Helper()
	if got, e := proof.Make(s, i, n); !sameProof(got, want) || e != wantE {
		t.Fatalf("Make(%d, %d) is %v, %v, want %v, %v", i, n, got, e, want, wantE)
	}
}

func checkMakePrefix(t *testing.T, s proof.Source, m, n uint64, want api.Prefix, wantE api.Errno) {
	t.Helper()
	if got, e := proof.MakePrefix(s, m, n); !samePrefix(got, want) || e != wantE {
		t.Fatalf("MakePrefix(%d, %d) is %v, %v, want %v, %v", m, n, got, e, want, wantE)
	}
}

// checkAsked holds what a source was asked against the places, one by one.
func checkAsked(t *testing.T, s *spy, want []uint64) {
	t.Helper()
	if !slices.Equal(s.asked, want) {
		t.Fatalf("asked for %v, want %v", s.asked, want)
	}
	s.asked = nil
}

// sizes are all up to some hundred, and great ones.
func sizes() []uint64 {
	l := []uint64{most, most - 1, most/2 + 1, 0x2aaaaaaaaaaaaaaa, 0x0123456789abcdef}
	for n := range some + 1 {
		l = append(l, n)
	}
	return l
}

// Promise 7.3: the source is asked for each place once, in their order; what it tells stands in Nodes.
func TestMakeAsks(t *testing.T) {
	s := &spy{}
	for _, n := range sizes() {
		for _, i := range indices(n) {
			places := placesOf(spotsOf(i, n))
			checkMake(t, s, i, n, api.Proof{Size: n, Index: i, Nodes: told(places)}, api.OK)
			checkAsked(t, s, places)
		}
		for _, m := range append(indices(n), n) {
			places := placesOf(prefixSpotsOf(m, n))
			checkMakePrefix(t, s, m, n, api.Prefix{From: m, Size: n, Nodes: told(places)}, api.OK)
			checkAsked(t, s, places)
		}
	}
}

// Promise 7.3: what the source says of the place that it refuses, the first, the last or one between; it is not asked
// for those behind, whatever it would say of them.
func TestMakeRefused(t *testing.T) {
	errors := []api.Errno{api.ErrPruned, api.ErrPlace, api.ErrArg, api.ErrIndex, api.ErrSize, -1, 12345}
	for n := range uint64(40) {
		for i := range n {
			places := placesOf(spotsOf(i, n))
			for k, p := range places {
				e := errors[(k+int(n))%len(errors)]
				s := &spy{refused: map[uint64]api.Errno{p: e}}
				checkMake(t, s, i, n, api.Proof{}, e)
				checkAsked(t, s, places[:k+1])
				for _, behind := range places[k+1:] {
					s.refused[behind] = api.ErrLate
				}
				checkMake(t, s, i, n, api.Proof{}, e)
				checkAsked(t, s, places[:k+1])
			}
		}
		for m := range n + 1 {
			places := placesOf(prefixSpotsOf(m, n))
			for k, p := range places {
				e := errors[(k+int(n))%len(errors)]
				s := &spy{refused: map[uint64]api.Errno{p: e}}
				checkMakePrefix(t, s, m, n, api.Prefix{}, e)
				checkAsked(t, s, places[:k+1])
				for _, behind := range places[k+1:] {
					s.refused[behind] = api.ErrLate
				}
				checkMakePrefix(t, s, m, n, api.Prefix{}, e)
				checkAsked(t, s, places[:k+1])
			}
		}
	}
}

// Promise 7.3: a source that refuses all but what is asked.
func TestMakeAsksForNothingElse(t *testing.T) {
	const n = 45
	for i := range uint64(n) {
		places := placesOf(spotsOf(i, n))
		s := &spy{refused: map[uint64]api.Errno{}}
		for p := range uint64(2 * n) {
			if !slices.Contains(places, p) {
				s.refused[p] = api.ErrPruned
			}
		}
		checkMake(t, s, i, n, api.Proof{Size: n, Index: i, Nodes: told(places)}, api.OK)
	}
}

// Promise 7.3: Places' errors, and that nobody is asked beside them; nor is anybody where there are no places.
func TestMakeOfNone(t *testing.T) {
	s := &spy{}
	for _, n := range append(edges(), beyond()...) {
		for _, x := range append([]uint64{0, 1, n, n + 1}, beyond()...) {
			if _, e := proof.Places(x, n); e != api.OK {
				checkMake(t, s, x, n, api.Proof{}, e)
				checkMake(t, nil, x, n, api.Proof{}, e)
				checkAsked(t, s, nil)
			}
			if _, e := proof.PrefixPlaces(x, n); e != api.OK {
				checkMakePrefix(t, s, x, n, api.Prefix{}, e)
				checkMakePrefix(t, nil, x, n, api.Prefix{}, e)
				checkAsked(t, s, nil)
			}
		}
	}
	checkMake(t, s, 0, 0, api.Proof{}, api.ErrIndex)
	checkMake(t, s, 7, 7, api.Proof{}, api.ErrIndex)
	checkMake(t, s, most, most, api.Proof{}, api.ErrIndex)
	checkMake(t, s, most+1, most+1, api.Proof{}, api.ErrSize)
	checkMakePrefix(t, s, 5, 4, api.Prefix{}, api.ErrSize)
	checkMakePrefix(t, s, most+1, most+1, api.Prefix{}, api.ErrSize)
	checkMake(t, s, 0, 1, api.Proof{Size: 1}, api.OK)
	checkMakePrefix(t, s, 0, 0, api.Prefix{}, api.OK)
	checkAsked(t, s, nil)
}

// Promise 7.3: proofs from a tree, of its size and of those that it has had, held against nodes that are worked out from
// the leaves anew.
func TestMakeFromTree(t *testing.T) {
	for _, w := range []int{1, 32} {
		leaves := hashes(500, 130)
		tree := grown(t, w, leaves)
		all := rows(leaves, func(l, r api.Hash) api.Hash { return hash.Node(w, l, r) })
		for n := range uint64(len(leaves) + 1) {
			for i := range n {
				checkMake(t, tree, i, n, api.Proof{Size: n, Index: i, Nodes: pick(all, spotsOf(i, n))}, api.OK)
			}
			for m := range n + 1 {
				checkMakePrefix(t, tree, m, n, api.Prefix{From: m, Size: n, Nodes: pick(all, prefixSpotsOf(m, n))}, api.OK)
			}
		}
	}
}

// Promise 7.3: a tree from which a node was dropped, and one that lacks leaves.
func TestMakeFromTreeThatLacks(t *testing.T) {
	const n = 21
	for p := range uint64(2*n - 3) {
		tree := grown(t, 32, hashes(0, n))
		if e := tree.Store().Drop(p); e != api.OK {
			t.Fatalf("Drop(%d) is %v", p, e)
		}
		for i := range uint64(n) {
			_, e := proof.Make(tree, i, n)
			if has := slices.Contains(placesOf(spotsOf(i, n)), p); has != (e == api.ErrPruned) || !has && e != api.OK {
				t.Fatalf("Make(%d, %d) without %d is %v", i, n, p, e)
			}
			_, e = proof.MakePrefix(tree, i, n)
			if has := slices.Contains(placesOf(prefixSpotsOf(i, n)), p); has != (e == api.ErrPruned) || !has && e != api.OK {
				t.Fatalf("MakePrefix(%d, %d) without %d is %v", i, n, p, e)
			}
		}
	}
	tree := grown(t, 32, hashes(0, n))
	for more := uint64(n + 1); more < 50; more++ {
		checkMake(t, tree, 0, more, api.Proof{}, api.ErrPlace)
		checkMakePrefix(t, tree, 3, more, api.Prefix{}, api.ErrPlace)
	}
	// Of 23 leaves the last one has but peaks in its proof, of which the tree has the first one, and the next not.
	checkMake(t, tree, 22, 23, api.Proof{}, api.ErrPlace)
	// The leaf that comes next has a sibling that is there, and peaks that are.
	want := api.Proof{Size: n + 1, Index: n, Nodes: []api.Hash{h(n - 1), tree.Peaks()[0], tree.Peaks()[1]}}
	checkMake(t, tree, n, n+1, want, api.OK)
}

// Rules R3 and R4: a proof is apart from another one, and a source may make proofs itself while it is asked.
func TestMadeProofsAreNew(t *testing.T) {
	const n = 30
	s := &spy{}
	for i := range uint64(n) {
		a, _ := proof.Make(s, i, n)
		b, _ := proof.Make(nested{}, i, n)
		clear(a.Nodes[:cap(a.Nodes)])
		if want := told(placesOf(spotsOf(i, n))); !slices.Equal(b.Nodes, want) {
			t.Fatalf("Make(%d, %d) has become %x", i, n, b.Nodes)
		}
		c, _ := proof.MakePrefix(s, i, n)
		d, _ := proof.MakePrefix(nested{}, i, n)
		clear(c.Nodes[:cap(c.Nodes)])
		if want := told(placesOf(prefixSpotsOf(i, n))); !slices.Equal(d.Nodes, want) {
			t.Fatalf("MakePrefix(%d, %d) has become %x", i, n, d.Nodes)
		}
	}
}

// nested is a source that makes other proofs while it is asked, and writes over them.
type nested struct{}

func (nested) Node(p uint64) (api.Hash, api.Errno) {
	x, _ := proof.Make(&spy{}, p, p+9)
	clear(x.Nodes[:cap(x.Nodes)])
	y, _ := proof.MakePrefix(&spy{}, p, p+9)
	clear(y.Nodes[:cap(y.Nodes)])
	return h(p), api.OK
}
