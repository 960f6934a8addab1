package many_test

import (
	"bytes"
	"slices"
	"testing"

	"massif/api"
	"massif/many"
)

// claim is all that Verify is handed but the bytes.
type claim struct {
	w      int
	root   api.Hash
	n      uint64
	index  []uint64
	leaves []api.Hash
}

func checkVerify(t *testing.T, c claim, b []byte, want api.Errno) {
	t.Helper()
	if e := many.Verify(c.w, c.root, c.n, c.index, c.leaves, b); e != want {
		t.Fatalf("Verify(%d, %x, %d, %v, %x, %x) is %v, want %v", c.w, c.root, c.n, c.index, c.leaves, b, e, want)
	}
}

// right is a claim with its proof, from a tree of n leaves.
func right(t *testing.T, w int, index []uint64, n uint64) (claim, []byte) {
	t.Helper()
	all := hashes(n, int(n))
	tree := grown(t, w, all)
	p, e := many.Make(tree, index, n)
	if e != api.OK {
		t.Fatalf("Make(%v, %d) is %v", index, n, e)
	}
	return claim{w, tree.Root(), n, index, pick(all, index)}, raw(t, p)
}

// Promise 10.9: what Make makes of a tree is accepted, of Root and of Old, for each size that the tree has had.
func TestVerifyOfTrees(t *testing.T) {
	for _, w := range widths() {
		all := hashes(40, 8)
		tree := grown(t, w, all)
		for n := range uint64(9) {
			old, e := tree.Old(n)
			if e != api.OK {
				t.Fatalf("Old(%d) is %v", n, e)
			}
			for _, index := range sets(n) {
				c, b := right(t, w, index, n)
				checkVerify(t, c, b, api.OK)
				p, _ := many.Make(tree, index, n)
				checkVerify(t, claim{w, old, n, index, pick(all, index)}, raw(t, p), api.OK)
			}
		}
	}
}

// Promise 10.6: leaves are accepted under the root that follows from any nodes, up to the greatest size, and under no
// other.
func TestVerifyOfGreatSizes(t *testing.T) {
	d := dice(11)
	for k, n := range great() {
		for _, index := range someOf(n, &d) {
			p := anyProof(index, n, uint64(100*k))
			leaves := hashes(7, len(index))
			b := bytesOf(p)
			c := claim{32, rootOf(32, leaves, p), n, index, leaves}
			checkVerify(t, c, b, api.OK)
			c.root = turned(c.root, k)
			checkVerify(t, c, b, api.ErrRoot)
			c.root = bagOf(32, n-1, peaksOf(32, leaves, p))
			checkVerify(t, c, b, api.ErrRoot)
		}
	}
}

// Promise 10.6: one leaf turned, two swapped, one left out, one more.
func TestVerifyOfOtherLeaves(t *testing.T) {
	for n := uint64(1); n < 9; n++ {
		for _, index := range sets(n) {
			good, b := right(t, 32, index, n)
			for k := range good.leaves {
				c := good
				c.leaves = slices.Clone(good.leaves)
				c.leaves[k] = turned(c.leaves[k], int(n)*31+k)
				checkVerify(t, c, b, api.ErrRoot)
				c.leaves = slices.Clone(good.leaves)
				c.leaves[k], c.leaves[0] = c.leaves[0], c.leaves[k]
				if k > 0 {
					checkVerify(t, c, b, api.ErrRoot)
				}
				c.leaves = slices.Delete(slices.Clone(good.leaves), k, k+1)
				checkVerify(t, c, b, api.ErrCount)
				c.index = slices.Delete(slices.Clone(index), k, k+1)
				checkVerify(t, c, b, api.ErrIndex)
			}
			c := good
			c.leaves = append(slices.Clone(good.leaves), h(1))
			checkVerify(t, c, b, api.ErrCount)
			c.leaves = nil
			if len(index) > 0 {
				checkVerify(t, c, b, api.ErrCount)
			}
		}
	}
}

// Promise 10.6: one node turned, two swapped, every bit of the root turned, another width.
func TestVerifyOfOtherNodes(t *testing.T) {
	for n := uint64(1); n < 8; n++ {
		for _, index := range sets(n) {
			good, b := right(t, 32, index, n)
			p, _ := many.Decode(b)
			for k := range p.Nodes {
				q := p
				q.Nodes = slices.Clone(p.Nodes)
				q.Nodes[k] = turned(q.Nodes[k], int(n)*31+k)
				checkVerify(t, good, raw(t, q), api.ErrRoot)
				q.Nodes[k] = p.Nodes[0]
				q.Nodes[0] = p.Nodes[k]
				if k > 0 {
					checkVerify(t, good, raw(t, q), api.ErrRoot)
				}
			}
			for bit := range 256 {
				c := good
				c.root = turned(c.root, bit)
				checkVerify(t, c, b, api.ErrRoot)
			}
			for _, w := range []int{-1, 1, 2, 31} {
				c := good
				c.w = w
				checkVerify(t, c, b, api.ErrRoot)
			}
			c := good
			c.w = 33
			checkVerify(t, c, b, api.OK)
		}
	}
}

// Promise 10.6, rule R2: Decode's error, ahead of all; another size, ahead of other indices, of another number of leaves
// and of another root; and so on.
func TestVerifyTellsTheFirst(t *testing.T) {
	for n := uint64(1); n < 7; n++ {
		for _, index := range sets(n) {
			good, b := right(t, 32, index, n)
			more := append(slices.Clone(index), n)
			for _, root := range []api.Hash{good.root, turned(good.root, 3)} {
				for _, leaves := range [][]api.Hash{good.leaves, append(slices.Clone(good.leaves), h(1))} {
					for _, at := range [][]uint64{index, more, append([]uint64{0}, index...)} {
						for _, x := range []uint64{n, 0, n - 1, n + 1, most, most + 1, far} {
							c := claim{32, root, x, at, leaves}
							checkVerify(t, c, b, verifyOf(32, root, x, at, leaves, b))
							if x != n {
								checkVerify(t, c, b, api.ErrSize)
							} else if len(at) != len(index) {
								checkVerify(t, c, b, api.ErrIndex)
							}
							checkVerify(t, c, nil, api.ErrCut)
							checkVerify(t, c, append([]byte{77}, b[1:]...), api.ErrKind)
							checkVerify(t, c, append(slices.Clone(b), 0), api.ErrTail)
							checkVerify(t, c, b[:len(b)-1], api.ErrCut)
							checkVerify(t, c, []byte{78, 0x80, 0}, api.ErrForm)
							checkVerify(t, c, []byte{78, 3, 2, 0, 2}, api.ErrIndex)
							checkVerify(t, c, append([]byte{78}, times(255, 10)...), api.ErrRange)
							checkVerify(t, c, append([]byte{78}, groups(most+1)...), api.ErrSize)
						}
					}
				}
			}
		}
	}
}

// Promise 10.6: indices that are not the proof's: each other set, and lists that do not rise.
func TestVerifyOfOtherIndices(t *testing.T) {
	for n := uint64(1); n < 6; n++ {
		for _, index := range sets(n) {
			good, b := right(t, 32, index, n)
			for _, other := range sets(n + 1) {
				if !slices.Equal(other, index) {
					c := good
					c.index = other
					checkVerify(t, c, b, api.ErrIndex)
					c.leaves = hashes(1, len(other))
					checkVerify(t, c, b, api.ErrIndex)
				}
			}
			if len(index) > 1 {
				c := good
				c.index = slices.Clone(index)
				slices.Reverse(c.index)
				checkVerify(t, c, b, api.ErrIndex)
			}
		}
	}
}

// Promise 10.6: bytes with a byte turned, in each place, are refused as the words say; none is accepted.
func TestVerifyOfTurnedBytes(t *testing.T) {
	for n := range uint64(7) {
		for _, index := range sets(n) {
			good, b := right(t, 32, index, n)
			for k := range b {
				other := slices.Clone(b)
				other[k] ^= 1 << (k % 8)
				want := verifyOf(32, good.root, n, index, good.leaves, other)
				if want == api.OK {
					t.Fatalf("%x is accepted like %x", other, b)
				}
				checkVerify(t, good, other, want)
				checkVerify(t, good, b[:k], api.ErrCut)
			}
		}
	}
}

// Promise 10.6: with a small width, many lists of leaves are accepted; just those of which the root follows.
func TestVerifyOfSmallWidths(t *testing.T) {
	accepted := 0
	for _, w := range []int{-3, 0, 1} {
		for n := range uint64(6) {
			for _, index := range sets(n) {
				p := anyProof(index, n, 8)
				b := bytesOf(p)
				root := rootOf(w, hashes(0, len(index)), p)
				for k := range uint64(40) {
					leaves := hashes(k*17, len(index))
					want := verifyOf(w, root, n, index, leaves, b)
					checkVerify(t, claim{w, root, n, index, leaves}, b, want)
					if want == api.OK && k > 0 && len(index) > 0 {
						accepted++
					}
				}
			}
		}
	}
	if accepted < 5 {
		t.Errorf("just %d other lists are accepted", accepted)
	}
}

// Promise 10.6: no leaves, one leaf, and none of many.
func TestVerifyOfNoneAndOne(t *testing.T) {
	empty := bagOf(32, 0, nil)
	checkVerify(t, claim{32, empty, 0, nil, nil}, []byte{78, 0, 0}, api.OK)
	checkVerify(t, claim{32, empty, 0, []uint64{}, []api.Hash{}}, []byte{78, 0, 0}, api.OK)
	checkVerify(t, claim{32, turned(empty, 9), 0, nil, nil}, []byte{78, 0, 0}, api.ErrRoot)
	checkVerify(t, claim{32, empty, 0, nil, hashes(0, 1)}, []byte{78, 0, 0}, api.ErrCount)
	checkVerify(t, claim{32, empty, 0, []uint64{0}, hashes(0, 1)}, []byte{78, 0, 0}, api.ErrIndex)
	one := bagOf(32, 1, hashes(4, 1))
	checkVerify(t, claim{32, one, 1, []uint64{0}, hashes(4, 1)}, []byte{78, 1, 1, 0}, api.OK)
	checkVerify(t, claim{32, one, 1, []uint64{0}, hashes(5, 1)}, []byte{78, 1, 1, 0}, api.ErrRoot)
	checkVerify(t, claim{32, one, 1, nil, nil}, append([]byte{78, 1, 0}, plain(hashes(4, 1))...), api.OK)
	peaks := hashes(4, 3)
	checkVerify(t, claim{32, bagOf(32, 7, peaks), 7, nil, nil}, append([]byte{78, 7, 0}, plain(peaks)...), api.OK)
}

// Rule R3: what is handed in stays as it is, and nothing is read or written behind it. Rule R4: asked again, the same.
func TestVerifyLeavesAlone(t *testing.T) {
	for _, index := range sets(6) {
		good, b := right(t, 2, index, 6)
		c := good
		c.index, c.leaves = behind(index, 1, far), behind(good.leaves, h(1), h(2))
		raw := append(slices.Clone(b), 1, 2, 3)
		for range 3 {
			checkVerify(t, c, raw[:len(b)], api.OK)
		}
		if !bytes.Equal(raw, append(slices.Clone(b), 1, 2, 3)) || !slices.Equal(c.index[:len(index)+2], append(slices.Clone(index), 1, far)) || !slices.Equal(c.leaves[:len(index)+2], append(slices.Clone(good.leaves), h(1), h(2))) {
			t.Fatal("what was handed in is changed")
		}
	}
}
