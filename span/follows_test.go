package span_test

import (
	"bytes"
	"slices"
	"testing"

	"massif/api"
	"massif/clash"
	"massif/hash"
	"massif/many"
	"massif/proof"
	"massif/span"
	"massif/verify"
)

// single is the proof of one leaf of a span, as chapter 7 has it, that follows from leaves and a proof.
func single(w int, leaves []api.Hash, p api.Reach, i uint64) api.Proof {
	k := knownOf(leaves, p)
	one := api.Proof{Size: p.Size, Index: i}
	for s := at(0, i); has(parent(s), p.Size); s = parent(s) {
		one.Nodes = append(one.Nodes, k.hash(w, api.Spot{Height: s.Height, Index: s.Index ^ 1}, nobody))
	}
	for _, s := range peakSpots(p.Size) {
		if !over(s, reach{i, i + 1, p.Size}) {
			one.Nodes = append(one.Nodes, k.hash(w, s, nobody))
		}
	}
	return one
}

// within is the proof of a span that lies within another one, that follows from the leaves of that and its proof.
func within(w int, leaves []api.Hash, p api.Reach, r reach) api.Reach {
	k := knownOf(leaves, p)
	var nodes []api.Hash
	for _, s := range needSpots(r) {
		nodes = append(nodes, k.hash(w, s, nobody))
	}
	return withNodes(r, nodes)
}

// common is the span in which two meet; one of no leaf, if they do not.
func common(a, b reach) reach {
	from := max(a.from, b.from)
	return reach{from, max(from, min(a.to, b.to)), a.n}
}

// mine are those of the leaves of a span that lie in another one within it.
func mine(leaves []api.Hash, r, in reach) []api.Hash {
	if in.long() == 0 {
		return nil
	}
	return leaves[in.from-r.from : in.to-r.from]
}

// accepted is leaves of a span, and a proof by which they are accepted.
type accepted struct {
	leaves []api.Hash
	p      api.Reach
}

// anyOf is any of a span, told by a number.
func anyOf(r reach, k uint64) accepted {
	return accepted{hashes(k*100, r.long()), anyProof(r, k*100+50)}
}

// bothWays are two, of any leaves and nodes, all of them unlike, that lead to one root; and that.
func bothWays(t *testing.T, w int, ofA, ofB reach) (accepted, accepted, api.Hash) {
	t.Helper()
	met := map[api.Hash]accepted{}
	for k := range uint64(1 << 13) {
		a, b := anyOf(ofA, 2*k), anyOf(ofB, 2*k+1)
		met[rootOf(w, a.leaves, a.p)] = a
		root := rootOf(w, b.leaves, b.p)
		if a, ok := met[root]; ok {
			checkVerify(t, claimOf(w, root, ofA, a.leaves), raw(t, a.p), api.OK)
			checkVerify(t, claimOf(w, root, ofB, b.leaves), raw(t, b.p), api.OK)
			return a, b, root
		}
	}
	t.Fatalf("%v and %v lead to no root together", ofA, ofB)
	return accepted{}, accepted{}, api.Hash{}
}

// twoTexts tells whether two unlike ones of some texts have one hash.
func twoTexts(w int, texts ...[]byte) bool {
	met := map[api.Hash][]byte{}
	for _, text := range texts {
		sum := hash.Sum(w, text)
		if first, ok := met[sum]; ok && !bytes.Equal(first, text) {
			return true
		}
		met[sum] = text
	}
	return false
}

// Promise 20.8: of a tree, two spans that meet in whatever tell the same leaves, and the same of all that both lead to.
func TestSpansOfOneTree(t *testing.T) {
	for n := range uint64(10) {
		all := hashes(70, int(n))
		tree := grown(t, 32, all)
		for _, a := range spans(n) {
			for _, b := range spans(n) {
				in := common(a, b)
				p, q := mustMake(t, tree, a), mustMake(t, tree, b)
				x, y := within(32, a.of(all), p, in), within(32, b.of(all), q, in)
				if !same(x, mustMake(t, tree, in)) || !same(y, x) {
					t.Fatalf("%v and %v tell of %v %v and %v", a, b, in, x, y)
				}
				checkVerify(t, claimOf(32, tree.Root(), in, mine(a.of(all), a, in)), raw(t, x), api.OK)
				if twoTexts(32, slices.Concat(textsOf(32, a.of(all), p), textsOf(32, b.of(all), q))...) {
					t.Fatalf("two unlike texts of %v and %v with one hash", a, b)
				}
			}
		}
	}
}

// Promise 20.8: of a tree, a span with a leaf turned where it meets another one is not accepted beside that.
func TestSpansOfOneTreeWithAnotherLeaf(t *testing.T) {
	const n = 9
	all := hashes(70, n)
	tree := grown(t, 32, all)
	for _, r := range spans(n) {
		b := raw(t, mustMake(t, tree, r))
		for j := range r.long() {
			c := claimOf(32, tree.Root(), r, with(r.of(all), j, turned(all[r.from], 77)))
			checkVerify(t, c, b, api.ErrRoot)
			if told, ok := (two{c, b, r.of(all), b}).ask(); ok {
				t.Fatalf("a clash of the width 32: %v", told)
			}
		}
	}
}

// meetings are pairs of spans of n leaves: of all that there are, some.
func meetings(n, step uint64) [][2]reach {
	var l [][2]reach
	var k uint64
	for _, a := range spans(n) {
		for _, b := range spans(n) {
			if k++; k%step == 0 {
				l = append(l, [2]reach{a, b})
			}
		}
	}
	return l
}

// Promise 20.8: two spans with any leaves and nodes that lead to one root: where they meet in leaves that are unlike, two
// unlike texts that were hashed on their ways have one hash, and Clash tells such texts of what lies in both.
func TestSpansThatMeet(t *testing.T) {
	const w = 1
	var one, several, none int
	for _, n := range []uint64{1, 2, 3, 5, 7, 8} {
		for _, x := range meetings(n, 1+n*n/8) {
			in := common(x[0], x[1])
			a, b, root := bothWays(t, w, x[0], x[1])
			switch in.long() {
			case 0:
				none++
				checkNoLeaf(t, w, n, a, b, in)
				continue
			case 1:
				one++
			default:
				several++
			}
			checkUnlike(t, w, root, a, b, in)
		}
	}
	if one < 20 || several < 20 || none < 20 {
		t.Errorf("just %d meet in one leaf, %d in several, %d in none", one, several, none)
	}
}

// checkUnlike holds that there is a clash where two parts of one span are unlike.
func checkUnlike(t *testing.T, w int, root api.Hash, a, b accepted, in reach) {
	t.Helper()
	x, y := mine(a.leaves, reachOf(a.p), in), mine(b.leaves, reachOf(b.p), in)
	if slices.Equal(x, y) {
		t.Fatalf("%v: the leaves are not unlike", in)
	}
	if !twoTexts(w, slices.Concat(textsOf(w, a.leaves, a.p), textsOf(w, b.leaves, b.p))...) {
		t.Fatalf("%v: no two unlike texts with one hash", in)
	}
	p, q := raw(t, within(w, a.leaves, a.p, in)), raw(t, within(w, b.leaves, b.p, in))
	two{claimOf(w, root, in, x), p, y, q}.mustTell(t)
	for j := range in.long() {
		i := in.from + uint64(j)
		c, ok := clash.Member(w, root, in.n, i, x[j], rawSingle(t, single(w, a.leaves, a.p, i)), y[j], rawSingle(t, single(w, b.leaves, b.p, i)))
		checkTold(t, w, c, ok, x[j] != y[j])
	}
}

// checkNoLeaf holds that nothing is told of leaves where two spans meet in none: of the peaks alone.
func checkNoLeaf(t *testing.T, w int, n uint64, a, b accepted, in reach) {
	t.Helper()
	p, q := within(w, a.leaves, a.p, in), within(w, b.leaves, b.p, in)
	root := rootOf(w, nil, p)
	if (two{claimOf(w, root, in, nil), raw(t, p), nil, raw(t, q)}).check(t) {
		t.Fatal("a clash of no leaves")
	}
	c, ok := clash.Peaks(w, n, p.Nodes, q.Nodes)
	checkTold(t, w, c, ok, !slices.Equal(p.Nodes, q.Nodes))
}

// rawSingle is a proof of chapter 7 in bytes.
func rawSingle(t *testing.T, p api.Proof) []byte {
	t.Helper()
	b, e := proof.Encode(p)
	if e != api.OK {
		t.Fatalf("proof.Encode{%d, %d, %d nodes} is %v", p.Size, p.Index, len(p.Nodes), e)
	}
	return b
}

// rawMany is a proof of chapter 10 in bytes.
func rawMany(t *testing.T, p api.Many) []byte {
	t.Helper()
	b, e := many.Encode(p)
	if e != api.OK {
		t.Fatalf("many.Encode{%d, %v, %d nodes} is %v", p.Size, p.Index, len(p.Nodes), e)
	}
	return b
}

// Promises 20.7 and 20.8: the proofs that chapters 7 and 10 make of a tree and those of spans tell of one another: each
// leaf of a span is accepted by the one that follows from it, and all of them with the same nodes by chapter 10.
func TestSpansLikeOtherProofs(t *testing.T) {
	for n := range uint64(14) {
		all := hashes(70, int(n))
		tree := grown(t, 32, all)
		for _, r := range spans(n) {
			p := mustMake(t, tree, r)
			m, e := many.Make(tree, r.index(), n)
			if e != api.OK || !slices.Equal(m.Nodes, p.Nodes) {
				t.Fatalf("many.Make of %v is %v, %v, want %v", r, m.Nodes, e, p.Nodes)
			}
			if e := many.Verify(32, tree.Root(), n, r.index(), r.of(all), rawMany(t, api.Many{Size: n, Index: r.index(), Nodes: p.Nodes})); e != api.OK {
				t.Fatalf("many.Verify of %v is %v", r, e)
			}
			checkVerify(t, claimOf(32, tree.Root(), r, r.of(all)), raw(t, withNodes(r, m.Nodes)), api.OK)
			for _, i := range r.index() {
				one, e := proof.Make(tree, i, n)
				if mine := single(32, r.of(all), p, i); e != api.OK || !slices.Equal(mine.Nodes, one.Nodes) {
					t.Fatalf("proof.Make of %d is %v, %v; of %v follows %v", i, one.Nodes, e, r, mine.Nodes)
				}
				if e := verify.Member(32, tree.Root(), n, i, all[i], rawSingle(t, one)); e != api.OK {
					t.Fatalf("verify.Member of %d is %v", i, e)
				}
			}
		}
	}
}

// Promise 20.8: a span and a proof of chapter 7 that lead to one root, with unlike leaves at one index.
func TestSpanAgainstOneLeaf(t *testing.T) {
	const w = 1
	met := 0
	for _, r := range spansUpTo(9) {
		for j, i := range r.index() {
			a, b, root := bothWays(t, w, r, reach{i, i + 1, r.n})
			q := rawSingle(t, single(w, b.leaves, b.p, i))
			if e := verify.Member(w, root, r.n, i, b.leaves[0], q); e != api.OK || b.leaves[0] == a.leaves[j] {
				t.Fatalf("verify.Member of %d is %v", i, e)
			}
			c, ok := clash.Member(w, root, r.n, i, a.leaves[j], rawSingle(t, single(w, a.leaves, a.p, i)), b.leaves[0], q)
			checkTold(t, w, c, ok, true)
			checkUnlike(t, w, root, a, b, reach{i, i + 1, r.n})
			met++
		}
	}
	if met < 100 {
		t.Errorf("just %d are met", met)
	}
}

// Promise 20.8: a span and a proof of chapter 10, of the same leaves, that lead to one root.
func TestSpanAgainstMany(t *testing.T) {
	const w = 1
	for _, r := range spansUpTo(9) {
		a, b, root := bothWays(t, w, r, r)
		ofA := rawMany(t, api.Many{Size: r.n, Index: r.index(), Nodes: a.p.Nodes})
		ofB := rawMany(t, api.Many{Size: r.n, Index: r.index(), Nodes: b.p.Nodes})
		for _, x := range []struct {
			leaves []api.Hash
			b      []byte
		}{{a.leaves, ofA}, {b.leaves, ofB}} {
			if e := many.Verify(w, root, r.n, r.index(), x.leaves, x.b); e != api.OK {
				t.Fatalf("many.Verify of %v is %v", r, e)
			}
		}
		c, ok := many.Clash(w, root, r.n, r.index(), a.leaves, ofA, b.leaves, ofB)
		checkTold(t, w, c, ok, r.long() > 0)
		c, ok = span.Clash(w, root, r.n, r.from, r.to, a.leaves, raw(t, a.p), b.leaves, raw(t, b.p))
		checkTold(t, w, c, ok, r.long() > 0)
	}
}
