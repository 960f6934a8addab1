package find_test

import (
	"slices"
	"testing"

	"massif/api"
	"massif/find"
	"massif/keep"
	"massif/proof"
	"massif/verify"
)

// spy is a source that writes down what it was asked, and tells hashes of its own.
type spy struct {
	asked   []uint64
	refused map[uint64]api.Errno
}

func (s *spy) Node(p uint64) (api.Hash, api.Errno) {
	s.asked = append(s.asked, p)
	if e, ok := s.refused[p]; ok {
		return api.Hash{1, 2, 3}, e // a hash beside an error means nothing
	}
	return told(p), api.OK
}

// told is what a spy tells of a place.
func told(p uint64) api.Hash { return h(p + 1<<50) }

// answer is what Prove answers, and what it asks for.
type answer struct {
	proofs []api.Proof
	e      api.Errno
	asked  []uint64
}

// prove is Prove of a spy, by the words of 22.3 and 7.3.
func (l list) prove(s *spy, leaf api.Hash) answer {
	var a answer
	n := uint64(len(l))
	for _, i := range l.at(leaf) {
		p := api.Proof{Size: n, Index: i}
		for _, place := range placesOf(i, n) {
			a.asked = append(a.asked, place)
			if e, ok := s.refused[place]; ok {
				return answer{e: e, asked: a.asked}
			}
			p.Nodes = append(p.Nodes, told(place))
		}
		a.proofs = append(a.proofs, p)
	}
	if a.proofs == nil {
		return answer{e: api.ErrIndex}
	}
	return a
}

func sameProof(a, b api.Proof) bool {
	return a.Size == b.Size && a.Index == b.Index && slices.Equal(a.Nodes, b.Nodes)
}

// checkProve holds Prove of a spy against the list.
func (p *pair) checkProve(s *spy, leaf api.Hash) answer {
	p.t.Helper()
	s.asked = nil
	want := p.list.prove(s, leaf)
	proofs, e := p.Prove(s, leaf)
	if e != want.e || !slices.EqualFunc(proofs, want.proofs, sameProof) {
		p.t.Fatalf("Prove of %v of %d is %v, %v, want %v, %v", p.list.at(leaf), len(p.list), proofs, e, want.proofs, want.e)
	}
	if !slices.Equal(s.asked, want.asked) {
		p.t.Fatalf("Prove of %v of %d asks for %v, want %v", p.list.at(leaf), len(p.list), s.asked, want.asked)
	}
	return want
}

// checkMakes holds Prove against chapter 7's Make, leaf by leaf, of every hash there is, and of some that stand nowhere.
func (p *pair) checkMakes(s find.Source) {
	p.t.Helper()
	n := p.Size()
	for _, x := range append(p.list.firsts(), nowhere()...) {
		var want []api.Proof
		wantE := api.OK
		for _, i := range p.list.at(x) {
			made, e := proof.Make(s, i, n)
			if e != api.OK {
				want, wantE = nil, e
				break
			}
			want = append(want, made)
		}
		if len(p.list.at(x)) == 0 {
			wantE = api.ErrIndex
		}
		if l, e := p.Prove(s, x); e != wantE || !slices.EqualFunc(l, want, sameProof) {
			p.t.Fatalf("Prove of %v of %d is %v, %v, want %v, %v", p.list.at(x), n, l, e, want, wantE)
		}
	}
}

// Promise 22.3: of trees of many sizes, whose hashes stand once, twice and many times: Make of each leaf.
func TestProveOfTrees(t *testing.T) {
	for _, w := range []int{1, 32} {
		for _, kinds := range []uint64{1, 3, 10, 100} {
			p := newPair(t)
			for i := range uint64(40) {
				p.add(h(i * 7 % kinds))
				p.checkMakes(grown(t, w, p.list))
			}
		}
	}
}

// Promise 22.3: behind Cut and Add: the proofs are those of the size that is left, of a tree that has these leaves, and of
// one that has others behind them.
func TestProveBehindCut(t *testing.T) {
	for seed := range uint64(30) {
		d := dice(seed)
		p := newPair(t)
		for range 6 {
			for range 12 {
				p.add(h(d.next(2 + seed)))
			}
			more := grown(t, 32, p.list)
			p.cut(d.next(p.Size() + 1))
			p.checkMakes(more)
			p.checkMakes(grown(t, 32, p.list))
			p.add(h(d.next(2 + seed)))
			p.checkMakes(grown(t, 32, p.list))
		}
	}
}

// Promise 22.3: what is proved is accepted under the tree's root, at each index.
func TestProveIsAccepted(t *testing.T) {
	for n := uint64(1); n < 30; n++ {
		p := newPair(t)
		for i := range n {
			p.add(h(i % 5))
		}
		tree := grown(t, 32, p.list)
		for _, x := range p.list.firsts() {
			l, e := p.Prove(tree, x)
			if e != api.OK || len(l) != len(p.At(x)) {
				t.Fatalf("Prove is %v, %v", l, e)
			}
			for k, i := range p.At(x) {
				b, _ := proof.Encode(l[k])
				if e := verify.Member(32, tree.Root(), n, i, x, b); e != api.OK {
					t.Fatalf("the proof of %d of %d is not accepted: %v", i, n, e)
				}
			}
		}
	}
}

// Promise 22.3: a source that tells hashes of its own is asked, for each index in its turn, for each place of its proof
// once, in Places' order; what it tells stands in Nodes, whatever the leaves are.
func TestProveAsks(t *testing.T) {
	s := &spy{}
	for _, kinds := range []uint64{1, 2, 5, 40} {
		p := newPair(t)
		for i := range uint64(36) {
			p.add(h(i * i % kinds))
			for _, x := range append(p.list.firsts(), nowhere()...) {
				p.checkProve(s, x)
			}
		}
	}
}

// refusals are some errors that a source may refuse with, that of Prove itself among them.
func refusals() []api.Errno {
	return []api.Errno{api.ErrPruned, api.ErrPlace, api.ErrArg, api.ErrIndex, api.ErrSize, -1, 1 << 40}
}

// Promise 22.3 and rule R2: who refuses one node, each in its turn: its error is the answer, of whichever leaf that needs
// it is the first; no proof is told beside it, of the leaves ahead neither, and nothing more is asked.
func TestProveRefused(t *testing.T) {
	errors := refusals()
	for n := uint64(1); n < 20; n++ {
		p := newPair(t)
		for i := range n {
			p.add(h(i % 4))
		}
		refused := 0
		for place := range 2 * n {
			s := &spy{refused: map[uint64]api.Errno{place: errors[place%uint64(len(errors))]}}
			for _, x := range p.list.firsts() {
				if p.checkProve(s, x).e != api.OK {
					refused++
				}
			}
		}
		if n > 1 && refused == 0 {
			t.Errorf("nothing was refused of %d", n)
		}
	}
}

// Promise 22.3: of two refusals that of the leaf that is proved first is the answer, though the other one's place be lower,
// and of one leaf that which stands first in its Places.
func TestProveFirstRefusal(t *testing.T) {
	a, b := h(1), h(2)
	p := pairOf(t, b, a, b, b, a, b, a) // a at 1, 4, 6: their places of 7 are [0 5 9 10], [8 6 10], [6 9]
	for _, z := range []struct {
		refused map[uint64]api.Errno
		want    api.Errno
		asked   []uint64
	}{
		{map[uint64]api.Errno{6: 100, 10: 101}, 101, []uint64{0, 5, 9, 10}},
		{map[uint64]api.Errno{6: 100, 8: 101}, 101, []uint64{0, 5, 9, 10, 8}},
		{map[uint64]api.Errno{6: 100}, 100, []uint64{0, 5, 9, 10, 8, 6}},
		{map[uint64]api.Errno{9: 100, 5: 101}, 101, []uint64{0, 5}},
		{map[uint64]api.Errno{1: 100, 3: 101}, api.OK, []uint64{0, 5, 9, 10, 8, 6, 10, 6, 9}},
	} {
		s := &spy{refused: z.refused}
		l, e := p.Prove(s, a)
		if e != z.want || !slices.Equal(s.asked, z.asked) || (e != api.OK && len(l) != 0) {
			t.Errorf("Prove with %v refused is %v, %v, asks for %v", z.refused, l, e, s.asked)
		}
		p.checkProve(s, a)
	}
}

// Promise 22.3: refusals that were drawn, of each hash of lists that were drawn.
func TestProveDrawnRefusals(t *testing.T) {
	for seed := range uint64(200) {
		d := dice(seed)
		s := &spy{refused: map[uint64]api.Errno{}}
		p := &pair{t: t, Find: find.New()}
		for range 1 + d.next(50) {
			x := h(d.next(12))
			p.Add(x)
			p.list = append(p.list, x)
		}
		for range d.next(8) {
			s.refused[d.next(2*p.Size())] = refusals()[d.next(7)]
		}
		for _, x := range append(p.list.firsts(), nowhere()...) {
			p.checkProve(s, x)
		}
		p.check()
	}
}

// Promise 22.3 and rule R2: of a hash that stands nowhere: ErrIndex, whatever the source, which is not asked.
func TestProveOfNone(t *testing.T) {
	all := map[uint64]api.Errno{}
	for p := range uint64(40) {
		all[p] = api.ErrPruned
	}
	for n := range uint64(12) {
		p := newPair(t)
		for i := range n {
			p.add(h(i % 3))
		}
		was := p.list.firsts()
		for _, x := range append(nowhere(), api.Hash{}) {
			p.checkProve(&spy{refused: all}, x)
			for _, s := range []find.Source{nil, &spy{}, grown(t, 32, p.list), grown(t, 32, nil)} {
				if l, e := p.Prove(s, x); len(l) != 0 || e != api.ErrIndex {
					t.Fatalf("Prove of a hash that stands nowhere is %v, %v", l, e)
				}
			}
		}
		p.cut(0)
		for _, x := range was {
			if l, e := p.Prove(nil, x); len(l) != 0 || e != api.ErrIndex {
				t.Fatalf("Prove of a hash that was cut away is %v, %v", l, e)
			}
		}
	}
}

// Promise 22.3: the proof of the one leaf that there is needs no node: nobody is asked.
func TestProveOfOneLeaf(t *testing.T) {
	p := pairOf(t, h(1))
	for _, s := range []find.Source{nil, grown(t, 32, nil), &spy{refused: map[uint64]api.Errno{0: api.ErrPruned}}} {
		if l, e := p.Prove(s, h(1)); e != api.OK || !slices.EqualFunc(l, []api.Proof{{Size: 1}}, sameProof) {
			t.Errorf("Prove is %v, %v", l, e)
		}
	}
}

// Promise 22.3: a tree that has fewer leaves refuses places of its own; one that lacks a node, and a keep that is pruned,
// refuse where it is needed.
func TestProveOfOtherSources(t *testing.T) {
	const n = 15
	p := newPair(t)
	for i := range uint64(n) {
		p.add(h(i * 5 % 7))
	}
	for size := range n {
		p.checkMakes(grown(t, 32, p.list[:size]))
	}
	if l, e := p.Prove(grown(t, 32, nil), h(0)); len(l) != 0 || e != api.ErrPlace {
		t.Errorf("Prove of a tree without leaves is %v, %v", l, e)
	}
	for gone := range uint64(26) {
		tree := grown(t, 32, p.list)
		if e := tree.Store().Drop(gone); e != api.OK {
			t.Fatalf("Drop(%d) is %v", gone, e)
		}
		p.checkMakes(tree)
	}
	for pin := range uint64(n) {
		k, e := keep.New(32, 3)
		if e != api.OK {
			t.Fatal(e)
		}
		for _, x := range p.list {
			k.Append(x)
		}
		k.Pin(pin)
		k.Prune()
		p.checkMakes(k)
	}
}
