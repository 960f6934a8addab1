package span_test

import (
	"bytes"
	"slices"
	"testing"

	"massif/api"
	"massif/span"
)

// claim is all that Verify is handed but the bytes.
type claim struct {
	w           int
	root        api.Hash
	n, from, to uint64
	leaves      []api.Hash
}

// claimOf is that of leaves of a span.
func claimOf(w int, root api.Hash, r reach, leaves []api.Hash) claim {
	return claim{w, root, r.n, r.from, r.to, leaves}
}

func checkVerify(t *testing.T, c claim, b []byte, want api.Errno) {
	t.Helper()
	if e := span.Verify(c.w, c.root, c.n, c.from, c.to, c.leaves, b); e != want {
		t.Fatalf("Verify(%d, %x, %d, %d, %d, %x, %x) is %v, want %v", c.w, c.root, c.n, c.from, c.to, c.leaves, b, e, want)
	}
}

// right is a claim with its proof, from a tree.
func right(t *testing.T, w int, r reach) (claim, []byte) {
	t.Helper()
	all := hashes(r.n, int(r.n))
	tree := grown(t, w, all)
	return claimOf(w, tree.Root(), r, r.of(all)), raw(t, mustMake(t, tree, r))
}

// Promises 20.5 and 20.7: what Make makes of a tree is accepted, of Root and of Old, for each size that the tree has had.
func TestVerifyOfTrees(t *testing.T) {
	for _, w := range widths() {
		all := hashes(40, 20)
		tree := grown(t, w, all)
		for n := range uint64(21) {
			old, e := tree.Old(n)
			if e != api.OK {
				t.Fatalf("Old(%d) is %v", n, e)
			}
			then := grown(t, w, all[:n])
			for _, r := range spans(n) {
				b := raw(t, mustMake(t, tree, r))
				checkVerify(t, claimOf(w, old, r, r.of(all)), b, api.OK)
				checkVerify(t, claimOf(w, then.Root(), r, r.of(all)), raw(t, mustMake(t, then, r)), api.OK)
			}
		}
	}
}

// Promises 20.5 and 20.7: the same with every span of every size up to some dozens.
func TestVerifyOfGreaterTrees(t *testing.T) {
	const n = 40
	all := hashes(4000, n)
	tree := grown(t, 32, all)
	for _, r := range spansUpTo(n + 1) {
		old, e := tree.Old(r.n)
		if e != api.OK {
			t.Fatalf("Old(%d) is %v", r.n, e)
		}
		checkVerify(t, claimOf(32, old, r, r.of(all)), raw(t, mustMake(t, tree, r)), api.OK)
	}
}

// Promise 20.5: leaves are accepted under the root that follows from any nodes, up to the greatest size, and under no
// other.
func TestVerifyOfGreatSizes(t *testing.T) {
	for k, n := range great() {
		for _, r := range shortOf(n) {
			p := anyProof(r, uint64(100*k))
			leaves := hashes(7, r.long())
			b := bytesOf(p)
			c := claimOf(32, rootOf(32, leaves, p), r, leaves)
			checkVerify(t, c, b, api.OK)
			c.root = turned(c.root, k)
			checkVerify(t, c, b, api.ErrRoot)
			c.root = bagOf(32, n-1, peaksOf(32, leaves, p), nobody)
			checkVerify(t, c, b, api.ErrRoot)
		}
	}
}

// Promise 20.5: one leaf turned, two swapped, one left out, one more.
func TestVerifyOfOtherLeaves(t *testing.T) {
	for _, r := range spansUpTo(12) {
		good, b := right(t, 32, r)
		for k := range good.leaves {
			c := good
			c.leaves = with(good.leaves, k, turned(good.leaves[k], int(r.n)*19+k))
			checkVerify(t, c, b, api.ErrRoot)
			c.leaves = with(with(good.leaves, k, good.leaves[0]), 0, good.leaves[k])
			if k > 0 {
				checkVerify(t, c, b, api.ErrRoot)
			}
			c.leaves = slices.Delete(slices.Clone(good.leaves), k, k+1)
			checkVerify(t, c, b, api.ErrCount)
		}
		for _, more := range []int{1, 2, 7} {
			c := good
			c.leaves = append(slices.Clone(good.leaves), hashes(1, more)...)
			checkVerify(t, c, b, api.ErrCount)
			c.leaves = append(hashes(1, more), good.leaves...)
			checkVerify(t, c, b, api.ErrCount)
		}
		if c := good; r.long() > 0 {
			c.leaves = nil
			checkVerify(t, c, b, api.ErrCount)
		}
	}
}

// Promise 20.5: one node turned, two swapped.
func TestVerifyOfOtherNodes(t *testing.T) {
	for _, r := range spansUpTo(12) {
		good, b := right(t, 32, r)
		p, _ := span.Decode(b)
		for k := range p.Nodes {
			q := p
			q.Nodes = with(p.Nodes, k, turned(p.Nodes[k], int(r.n)*19+k))
			checkVerify(t, good, raw(t, q), api.ErrRoot)
			q.Nodes = with(with(p.Nodes, k, p.Nodes[0]), 0, p.Nodes[k])
			if k > 0 {
				checkVerify(t, good, raw(t, q), api.ErrRoot)
			}
		}
	}
}

// Promise 20.5: every bit of the root turned, another width.
func TestVerifyOfOtherRoots(t *testing.T) {
	for _, r := range spansUpTo(8) {
		good, b := right(t, 32, r)
		for bit := range 256 {
			c := good
			c.root = turned(c.root, bit)
			checkVerify(t, c, b, api.ErrRoot)
		}
		for _, w := range []int{-1, 1, 2, 31} {
			c := good
			c.w = w
			checkVerify(t, c, b, api.ErrRoot)
		}
		c := good
		c.w = 33
		checkVerify(t, c, b, api.OK)
	}
}

// Promise 20.5, rule R2: another size, ahead of another span, of another number of leaves and of another root; another
// span ahead of these two; another number of leaves ahead of another root.
func TestVerifyTellsTheFirst(t *testing.T) {
	for _, r := range spansUpTo(7) {
		good, b := right(t, 32, r)
		for _, root := range []api.Hash{good.root, turned(good.root, 3)} {
			for _, leaves := range [][]api.Hash{good.leaves, append(slices.Clone(good.leaves), h(1)), hashes(5, r.long()), nil} {
				for _, n := range []uint64{r.n, 0, r.n - 1, r.n + 1, most, most + 1, far} {
					for _, from := range []uint64{r.from, 0, r.from - 1, r.from + 1, r.to + 1, most, far} {
						for _, to := range []uint64{r.to, 0, r.to - 1, r.to + 1, r.n + 1, far} {
							c := claim{32, root, n, from, to, leaves}
							checkVerify(t, c, b, firstOf(c, r, good))
						}
					}
				}
			}
		}
	}
}

// firstOf is what Verify is to say of a claim by the bytes of another one, which is right: of what they part in, what
// stands first.
func firstOf(c claim, r reach, good claim) api.Errno {
	switch {
	case c.n != r.n:
		return api.ErrSize
	case c.from != r.from || c.to != r.to:
		return api.ErrIndex
	case len(c.leaves) != len(good.leaves):
		return api.ErrCount
	case c.root != good.root || !slices.Equal(c.leaves, good.leaves):
		return api.ErrRoot
	}
	return api.OK
}

// Promise 20.5, rule R2: Decode's error, ahead of all that the claim may be.
func TestVerifyTellsDecodesErrors(t *testing.T) {
	for _, r := range spansUpTo(7) {
		good, b := right(t, 32, r)
		for _, c := range []claim{
			good,
			{32, turned(good.root, 3), r.n, r.from, r.to, good.leaves},
			{32, good.root, r.n + 1, r.from, r.to, good.leaves},
			{32, good.root, most + 1, r.from, r.to, good.leaves},
			{32, good.root, r.n, r.from + 1, r.to, good.leaves},
			{32, good.root, r.n, r.from, far, good.leaves},
			{32, good.root, r.n, r.from, r.to, append(slices.Clone(good.leaves), h(1))},
			{32, good.root, r.n, far, 0, nil},
		} {
			checkVerify(t, c, nil, api.ErrCut)
			checkVerify(t, c, append([]byte{78}, b[1:]...), api.ErrKind)
			checkVerify(t, c, append(slices.Clone(b), 0), api.ErrTail)
			checkVerify(t, c, b[:len(b)-1], api.ErrCut)
			checkVerify(t, c, []byte{83, 0x80, 0}, api.ErrForm)
			checkVerify(t, c, []byte{83, 3, 4, 0}, api.ErrIndex)
			checkVerify(t, c, []byte{83, 3, 2, 2}, api.ErrIndex)
			checkVerify(t, c, parts(times(255, 10)), api.ErrRange)
			checkVerify(t, c, parts(groups(most+1)), api.ErrSize)
		}
	}
}

// Promise 20.5: spans that are not the proof's: each other one of the size, with as many leaves as it has, and ends the
// other way round.
func TestVerifyOfOtherSpans(t *testing.T) {
	for _, r := range spansUpTo(8) {
		good, b := right(t, 32, r)
		for _, other := range spans(r.n + 1) {
			if other.from != r.from || other.to != r.to {
				c := good
				c.from, c.to = other.from, other.to
				checkVerify(t, c, b, api.ErrIndex)
				c.leaves = hashes(1, other.long())
				checkVerify(t, c, b, api.ErrIndex)
			}
		}
		if c := good; r.from != r.to {
			c.from, c.to = r.to, r.from
			checkVerify(t, c, b, api.ErrIndex)
		}
	}
}

// Promise 20.5: proofs of other spans with as many leaves, which are not there.
func TestVerifyOfMovedProofs(t *testing.T) {
	const n = 11
	all := hashes(n, n)
	tree := grown(t, 32, all)
	for _, r := range spans(n) {
		for _, other := range spans(n) {
			if r.long() == 0 || r.long() != other.long() || r == other {
				continue
			}
			// The leaves of the one span under the proof of the other one; and so too with its ends told.
			b := raw(t, mustMake(t, tree, other))
			checkVerify(t, claimOf(32, tree.Root(), other, r.of(all)), b, api.ErrRoot)
			checkVerify(t, claimOf(32, tree.Root(), r, r.of(all)), b, api.ErrIndex)
		}
	}
}

// Promise 20.5: bytes with a bit turned, in each place, are refused as the words say; none is accepted.
func TestVerifyOfTurnedBytes(t *testing.T) {
	for _, r := range spansUpTo(10) {
		good, b := right(t, 32, r)
		for k := range b {
			other := slices.Clone(b)
			other[k] ^= 1 << (k % 8)
			want := verifyOf(good, other)
			if want == api.OK {
				t.Fatalf("%x is accepted like %x", other, b)
			}
			checkVerify(t, good, other, want)
			checkVerify(t, good, b[:k], api.ErrCut)
		}
	}
}

// Promise 20.5: with a small width, many lists of leaves are accepted; just those of which the root follows.
func TestVerifyOfSmallWidths(t *testing.T) {
	accepted := 0
	for _, w := range []int{-3, 0, 1} {
		for _, r := range spansUpTo(9) {
			p := anyProof(r, 8)
			b := bytesOf(p)
			root := rootOf(w, hashes(0, r.long()), p)
			for k := range uint64(40) {
				c := claimOf(w, root, r, hashes(k*17, r.long()))
				want := verifyOf(c, b)
				checkVerify(t, c, b, want)
				if want == api.OK && k > 0 && r.long() > 0 {
					accepted++
				}
			}
		}
	}
	if accepted < 5 {
		t.Errorf("just %d other lists are accepted", accepted)
	}
}

// Promise 20.5: no leaves, one leaf, and none of many.
func TestVerifyOfNoneAndOne(t *testing.T) {
	empty := bagOf(32, 0, nil, nobody)
	checkVerify(t, claim{32, empty, 0, 0, 0, nil}, []byte{83, 0, 0, 0}, api.OK)
	checkVerify(t, claim{32, empty, 0, 0, 0, []api.Hash{}}, []byte{83, 0, 0, 0}, api.OK)
	checkVerify(t, claim{32, turned(empty, 9), 0, 0, 0, nil}, []byte{83, 0, 0, 0}, api.ErrRoot)
	checkVerify(t, claim{32, empty, 0, 0, 0, hashes(0, 1)}, []byte{83, 0, 0, 0}, api.ErrCount)
	checkVerify(t, claim{32, empty, 0, 0, 1, hashes(0, 1)}, []byte{83, 0, 0, 0}, api.ErrIndex)
	one := bagOf(32, 1, hashes(4, 1), nobody)
	checkVerify(t, claim{32, one, 1, 0, 1, hashes(4, 1)}, []byte{83, 1, 0, 1}, api.OK)
	checkVerify(t, claim{32, one, 1, 0, 1, hashes(5, 1)}, []byte{83, 1, 0, 1}, api.ErrRoot)
	checkVerify(t, claim{32, one, 1, 0, 0, nil}, append([]byte{83, 1, 0, 0}, plain(hashes(4, 1))...), api.OK)
	checkVerify(t, claim{32, one, 1, 1, 1, nil}, append([]byte{83, 1, 1, 0}, plain(hashes(4, 1))...), api.OK)
	checkVerify(t, claim{32, one, 1, 0, 0, nil}, append([]byte{83, 1, 1, 0}, plain(hashes(4, 1))...), api.ErrIndex)
	peaks := hashes(4, 3)
	checkVerify(t, claim{32, bagOf(32, 7, peaks, nobody), 7, 5, 5, nil}, append([]byte{83, 7, 5, 0}, plain(peaks)...), api.OK)
}

// Rule R3: what is handed in stays as it is, and nothing is read or written behind it. Rule R4: asked again, the same.
func TestVerifyLeavesAlone(t *testing.T) {
	for _, r := range spansUpTo(9) {
		good, b := right(t, 2, r)
		c := good
		c.leaves = behind(good.leaves, h(1), h(2))
		room := append(slices.Clone(b), 1, 2, 3)
		for range 3 {
			checkVerify(t, c, room[:len(b)], api.OK)
		}
		if !bytes.Equal(room, append(slices.Clone(b), 1, 2, 3)) || !slices.Equal(c.leaves[:r.long()+2], append(slices.Clone(good.leaves), h(1), h(2))) {
			t.Fatal("what was handed in is changed")
		}
	}
}
