package verify_test

import (
	"bytes"
	"slices"
	"testing"

	"massif/api"
	"massif/hash"
	"massif/mmr"
	"massif/proof"
	"massif/verify"
)

// claim is all that Member is handed but the bytes.
type claim struct {
	w    int
	root api.Hash
	n, i uint64
	leaf api.Hash
}

func checkMember(t *testing.T, c claim, b []byte, want api.Errno) {
	t.Helper()
	if e := verify.Member(c.w, c.root, c.n, c.i, c.leaf, b); e != want {
		t.Fatalf("Member(%d, %x, %d, %d, %x, %x) is %v, want %v", c.w, c.root, c.n, c.i, c.leaf, b, e, want)
	}
}

// right is a claim with its proof, of a leaf of n, all of them unlike.
func right(t *testing.T, w int, i, n uint64) (claim, api.Proof) {
	t.Helper()
	leaves := hashes(n, int(n))
	all := rows(w, leaves)
	p := api.Proof{Size: n, Index: i, Nodes: pick(all, memberSpots(i, n))}
	return claim{w, bagOf(w, n, pick(all, peakSpots(n))), n, i, leaves[i]}, p
}

// The examples of chapter 8.
func TestMemberExamples(t *testing.T) {
	a, b, c := h(1), h(2), h(3)
	tree := grown(t, 32, []api.Hash{a, b, c})
	r3 := hash.Root(32, 3, hash.Fold(32, hash.Node(32, a, b), c))
	if tree.Root() != r3 {
		t.Fatal("another root of a tree")
	}
	bytes := raw(t, api.Proof{Size: 3, Index: 1, Nodes: []api.Hash{a, c}})
	checkMember(t, claim{32, r3, 3, 1, b}, bytes, api.OK)
	checkMember(t, claim{32, r3, 4, 1, b}, bytes, api.ErrSize)
	checkMember(t, claim{32, r3, 3, 0, b}, bytes, api.ErrIndex)
	checkMember(t, claim{32, r3, 3, 1, a}, bytes, api.ErrRoot)
	checkMember(t, claim{32, r3, 3, 1, b}, bytes[:len(bytes)-1], api.ErrCut)
}

// Promise 8.5: what Make makes of a tree is accepted, of Root and of Old, for each size that the tree has had.
func TestMemberOfTrees(t *testing.T) {
	for _, w := range widths() {
		leaves := hashes(40, some)
		var tree *mmr.Tree
		for n := range uint64(some + 1) {
			tree = grown(t, w, leaves[:n])
			for i := range n {
				checkMember(t, claim{w, tree.Root(), n, i, leaves[i]}, made(t, tree, i, n), api.OK)
			}
		}
		for n := range uint64(some + 1) {
			old, e := tree.Old(n)
			if e != api.OK {
				t.Fatalf("Old(%d) is %v", n, e)
			}
			for i := range n {
				checkMember(t, claim{w, old, n, i, leaves[i]}, made(t, tree, i, n), api.OK)
			}
		}
	}
}

// made is the bytes of what Make makes.
func made(t *testing.T, s proof.Source, i, n uint64) []byte {
	t.Helper()
	p, e := proof.Make(s, i, n)
	if e != api.OK {
		t.Fatalf("Make(%d, %d) is %v", i, n, e)
	}
	return raw(t, p)
}

// Promise 8.2: a leaf is accepted under the root that follows from any nodes, up to the greatest size, and under no other.
func TestMemberOfGreatSizes(t *testing.T) {
	for k, n := range great() {
		for _, i := range within(n) {
			p := api.Proof{Size: n, Index: i, Nodes: hashes(uint64(100*k), len(memberSpots(i, n)))}
			c := claim{32, bagOf(32, n, climbOf(32, h(7), p)), n, i, h(7)}
			b := raw(t, p)
			checkMember(t, c, b, api.OK)
			c.root = turned(c.root, k)
			checkMember(t, c, b, api.ErrRoot)
			c.root = bagOf(32, n-1, climbOf(32, h(7), p))
			checkMember(t, c, b, api.ErrRoot)
		}
	}
}

// Promise 8.2: a proof's Size and Index that are not those asked for, the one, the other and both, beside a right and a
// wrong root.
func TestMemberOfOtherNumbers(t *testing.T) {
	for n := uint64(1); n <= 20; n++ {
		for i := range n {
			good, p := right(t, 32, i, n)
			b := raw(t, p)
			for _, root := range []api.Hash{good.root, turned(good.root, 3)} {
				c := good
				c.root = root
				for _, x := range []uint64{0, 1, i, n - 1, n + 1, n + 2, 2 * n, n + 1<<32, n ^ 1<<63, most, most + 1, far} {
					if x != n {
						c.n, c.i = x, i
						checkMember(t, c, b, api.ErrSize)
						for _, y := range []uint64{0, i + 1, n, x, far} {
							c.i = y
							checkMember(t, c, b, api.ErrSize)
						}
					}
				}
				c.n = n
				for _, x := range []uint64{0, i - 1, i + 1, i ^ 1, n - 1, n, i + 1<<32, i ^ 1<<63, most, far} {
					if x != i {
						c.i = x
						checkMember(t, c, b, api.ErrIndex)
					}
				}
			}
		}
	}
}

// Promise 8.2: a size above MaxLeaves, asked for and in the bytes: Decode's error stands first.
func TestMemberBeyondMaxLeaves(t *testing.T) {
	_, p := right(t, 32, 1, 3)
	for _, n := range beyond() {
		checkMember(t, claim{32, h(1), n, 1, h(2)}, raw(t, p), api.ErrSize)
		checkMember(t, claim{32, h(1), n, n, h(2)}, nil, api.ErrCut)
	}
	b := []byte{77, 0x81, 0x80, 0x80, 0x80, 0x80, 0x80, 0x80, 0x80, 0x40, 0x80} // 2^62 + 1, and an index that is cut
	checkMember(t, claim{32, h(1), most + 1, 0, h(2)}, b, api.ErrSize)
	b[1] = 0x80 // 2^62
	checkMember(t, claim{32, h(1), most + 1, 0, h(2)}, b, api.ErrCut)
}

// Promise 8.2: with another root, another leaf, or a node in which one bit is turned, the root is not the one. (With the
// width 32; with a smaller one a clash may be met: see TestMemberOfSmallWidths.)
func TestMemberOfOtherBits(t *testing.T) {
	for _, n := range []uint64{1, 2, 3, 6, 7, 13} {
		for i := range n {
			c, p := right(t, 32, i, n)
			b := raw(t, p)
			for bit := range 256 {
				x, y := c, c
				x.root = turned(c.root, bit)
				checkMember(t, x, b, api.ErrRoot)
				y.leaf = turned(c.leaf, bit)
				checkMember(t, y, b, api.ErrRoot)
				for k := range p.Nodes {
					bad := p
					bad.Nodes = slices.Clone(p.Nodes)
					bad.Nodes[k] = turned(bad.Nodes[k], bit)
					checkMember(t, c, raw(t, bad), api.ErrRoot)
				}
			}
			checkMember(t, c, b, api.OK)
		}
	}
}

// Promise 8.2: nodes that have changed places, and the proof of another leaf.
func TestMemberOfNodesElsewhere(t *testing.T) {
	for n := uint64(1); n <= 24; n++ {
		for i := range n {
			c, p := right(t, 32, i, n)
			for a := range p.Nodes {
				for b := range a {
					bad := p
					bad.Nodes = slices.Clone(p.Nodes)
					bad.Nodes[a], bad.Nodes[b] = bad.Nodes[b], bad.Nodes[a]
					checkMember(t, c, raw(t, bad), api.ErrRoot)
				}
			}
			if j := i ^ 1; j < n {
				_, q := right(t, 32, j, n)
				q.Index = i // as many nodes, of the sibling
				checkMember(t, c, raw(t, q), api.ErrRoot)
			}
		}
	}
}

// Promise 8.2: with small widths other leaves and nodes are accepted just where the root that follows is the same.
func TestMemberOfSmallWidths(t *testing.T) {
	accepted := 0
	for _, w := range []int{0, 1, 2} {
		for n := uint64(2); n <= 16; n++ {
			for i := range n {
				c, p := right(t, w, i, n)
				b := raw(t, p)
				for k := range uint64(40) {
					c.leaf = h(1000 + k)
					want := memberOf(w, c.root, n, i, c.leaf, b)
					if want == api.OK {
						accepted++
					}
					checkMember(t, c, b, want)
				}
			}
		}
	}
	if accepted == 0 {
		t.Error("no other leaf was accepted: no clash was tried")
	}
}

// Promise 8.2: a proof is one of its width alone; widths outside count as the nearest.
func TestMemberOfOtherWidth(t *testing.T) {
	for _, w := range widths() {
		c, p := right(t, w, 4, 11)
		b := raw(t, p)
		for _, v := range widths() {
			want := api.ErrRoot
			if min(max(v, 1), 32) == min(max(w, 1), 32) {
				want = api.OK
			}
			c.w = v
			checkMember(t, c, b, want)
		}
	}
}

// Promise 8.2: bytes that Decode refuses: cut off at each length, with another first byte, of the other kind, with one
// byte more; whatever the claim is.
func TestMemberOfWrongBytes(t *testing.T) {
	for _, n := range []uint64{1, 2, 7, 60, 200} {
		c, p := right(t, 32, n/2, n)
		b := raw(t, p)
		for _, d := range []claim{c, {32, c.root, n + 1, c.i, c.leaf}, {32, c.root, n, c.i + 1, c.leaf}, {32, h(1), n, c.i, c.leaf}, {}} {
			for k := range b {
				checkMember(t, d, b[:k:k], api.ErrCut)
				checkMember(t, d, b[:k], api.ErrCut) // the bytes that lack lie behind its length
			}
			for first := range 256 {
				x := slices.Clone(b)
				x[0] = byte(first)
				if first != 77 {
					checkMember(t, d, x, api.ErrKind)
				}
			}
			for last := range 256 {
				checkMember(t, d, append(slices.Clone(b), byte(last)), api.ErrTail)
			}
			checkMember(t, d, slices.Concat(b, b), api.ErrTail)
			checkMember(t, d, nil, api.ErrCut)
			checkMember(t, d, []byte{77}, api.ErrCut)
			checkMember(t, d, []byte{80}, api.ErrKind)
			checkMember(t, d, []byte{77, 0x81, 0}, api.ErrForm)
			checkMember(t, d, []byte{77, 3, 3}, api.ErrIndex)
			checkMember(t, d, append([]byte{77}, bytes.Repeat([]byte{255}, 10)...), api.ErrRange)
			q := api.Prefix{From: n, Size: n, Nodes: pick(rows(32, hashes(n, int(n))), peakSpots(n))}
			checkMember(t, d, rawPrefix(t, q), api.ErrKind)
		}
	}
}

// Promise 8.2 and rule R1: whatever the bytes are, by the words of the chapter.
func TestMemberOfAnyBytes(t *testing.T) {
	var d dice
	for range 20000 {
		n := d.next(20) + 1
		c, p := right(t, []int{1, 2, 32}[d.next(3)], d.next(n), n)
		b := raw(t, p)
		for range d.next(3) {
			switch d.next(4) {
			case 0:
				b[d.next(uint64(len(b)))] ^= 1 << d.next(8)
			case 1:
				b = b[:d.next(uint64(len(b)))+1]
			case 2:
				b[d.next(min(4, uint64(len(b))))] = byte(d.next(256))
			case 3:
				b = slices.Insert(b, int(d.next(uint64(len(b))+1)), byte(d.next(256)))
			}
		}
		switch d.next(6) {
		case 0:
			c.n = d.next(21)
		case 1:
			c.i = d.next(21)
		case 2:
			c.root = turned(c.root, int(d.next(256)))
		case 3:
			c.leaf = turned(c.leaf, int(d.next(256)))
		}
		checkMember(t, c, b, memberOf(c.w, c.root, c.n, c.i, c.leaf, b))
	}
}

// Rules R3 and R4: the bytes are not changed and not kept; nothing hangs on what was asked ahead.
func TestMemberKeepsNothing(t *testing.T) {
	for n := uint64(1); n <= some; n++ {
		c, p := right(t, 32, n/2, n)
		room := append(raw(t, p), 1, 2, 3)
		was := slices.Clone(room)
		b := room[:len(room)-3]
		checkMember(t, c, b, api.OK)
		if !slices.Equal(room, was) {
			t.Fatalf("size %d: Member changed the bytes, or what lies behind", n)
		}
		for i := range room {
			room[i] = ^room[i]
		}
		checkMember(t, c, b, api.ErrKind)
		checkMember(t, c, was[:len(was)-3], api.OK)
		checkMember(t, c, was, api.ErrTail)
	}
}
