package judge_test

import (
	"slices"
	"testing"

	"massif/api"
	"massif/judge"
	"massif/num"
)

// Promises 18.3, 18.5: each link of a tree to itself, in each order, at each width: what leads where behind each of them.
func TestLinksOfOneTree(t *testing.T) {
	for _, w := range widths() {
		x := treeOf(t, w, leaves(0, 6))
		var links []link
		for n := range uint64(7) {
			for m := range n + 1 {
				links = append(links, linkOf(t, x, m, n))
			}
		}
		for _, l := range orders(links) {
			p := seeing(t, w, headsOf(t, x)...)
			for _, k := range l {
				p.Link(k, api.OK)
			}
			if len(p.words.links) != 28 || p.last.told {
				t.Fatalf("%d links, a clash %v", len(p.words.links), p.last.told)
			}
		}
	}
}

// Promises 18.2 to 18.6: heads and links of two trees that part, told in turns.
func TestLinksOfTwoTrees(t *testing.T) {
	for _, w := range []int{32, 5, 1} {
		x, y := treeOf(t, w, leaves(0, 8)), parting(t, w, 3, 8, 2)
		p := newPair(t, w)
		for n := range uint64(9) {
			p.See(headAt(t, x, n), api.OK)
			p.See(headAt(t, y, n), api.OK)
			p.Link(linkOf(t, x, n/2, n), api.OK)
			p.Link(linkOf(t, y, n/2, n), api.OK)
			p.Link(linkOf(t, x, n-min(n, 1), n), api.OK)
		}
	}
}

// Promise 18.3: a proof of the one tree says nothing of a head that the other one alone has, which is known too.
func TestLinksAcrossTrees(t *testing.T) {
	x, y := treeOf(t, 32, leaves(0, 8)), parting(t, 32, 3, 8, 2)
	of := func(n uint64) api.Errno {
		if n <= 3 {
			return api.OK // up to here they are one tree
		}
		return api.ErrRoot
	}
	p := seeing(t, 32, slices.Concat(headsOf(t, x), headsOf(t, y))...)
	for m := range uint64(9) {
		for n := m; n <= 8; n++ {
			p.Link(link{headAt(t, y, m), headAt(t, x, n), bytesOf(t, x, m, n)}, of(m))
			p.Link(link{headAt(t, x, m), headAt(t, y, n), bytesOf(t, x, m, n)}, of(n))
		}
	}
}

// Promise 18.3: the first head unknown, the second, both: ErrHead, with right bytes and with wrong ones.
func TestUnknownHeads(t *testing.T) {
	for _, w := range widths() {
		x := treeOf(t, w, leaves(0, 9))
		l := linkOf(t, x, 4, 9)
		for _, b := range [][]byte{l.p, nil, {1}, l.p[:20], append(slices.Clone(l.p), 0)} {
			l := link{l.a, l.b, b}
			seeing(t, w).Link(l, api.ErrHead)
			seeing(t, w, l.a).Link(l, api.ErrHead)
			seeing(t, w, l.b).Link(l, api.ErrHead)
			seeing(t, w, headAt(t, x, 5), headAt(t, x, 8)).Link(l, api.ErrHead)
		}
		p := newPair(t, w)
		p.Link(l, api.ErrHead)
		p.See(l.b, api.OK)
		p.Link(l, api.ErrHead)
		p.See(l.a, api.OK)
		p.Link(l, api.OK)
	}
}

// Promise 18.3: a head is known by its size and each byte of its root.
func TestHeadsThatAreNearlyKnown(t *testing.T) {
	x := treeOf(t, 32, leaves(0, 9))
	l := linkOf(t, x, 4, 9)
	p := seeing(t, 32, l.a, l.b)
	for at := range len(api.Hash{}) {
		first, second := l, l
		first.a.Root[at] ^= 1
		second.b.Root[at] ^= 128
		p.Link(first, api.ErrHead)
		p.Link(second, api.ErrHead)
	}
	for _, n := range []uint64{0, 3, 5, 8, 10, most, most + 1, far} {
		p.Link(link{api.Head{Size: n, Root: l.a.Root}, l.b, l.p}, api.ErrHead)
		p.Link(link{l.a, api.Head{Size: n, Root: l.b.Root}, l.p}, api.ErrHead)
	}
	p.Link(l, api.OK)
}

// Promises 18.3, 18.5, 18.6: a link from a head to itself is one; it leads nowhere else, and no clash comes of it.
func TestLinksToThemselves(t *testing.T) {
	for _, w := range widths() {
		x := treeOf(t, w, leaves(0, 9))
		p := seeing(t, w, headsOf(t, x)...)
		for n := range uint64(10) {
			p.Link(linkOf(t, x, n, n), api.OK)
			p.Link(linkOf(t, x, n, n), api.OK)
		}
		p.Link(linkOf(t, x, 3, 7), api.OK)
		if len(p.words.links) != 11 || p.last.told {
			t.Errorf("%d links, a clash %v", len(p.words.links), p.last.told)
		}
	}
}

// refusal is bytes that Prefix refuses, of a link between known heads.
type refusal struct {
	p    []byte
	want api.Errno
}

// short is a prefix proof's beginning, up to its nodes.
func short(kind byte, from, size uint64) []byte {
	return slices.Concat([]byte{kind}, num.Short(from), num.Short(size))
}

// refusals are the errors of Prefix in their order, of a right proof that 9 leaves begin with 4: each one stands beside what
// comes behind it, too.
func refusals(right []byte) []refusal {
	nodes := right[3:]
	cut := nodes[:len(nodes)-1]
	tail := append(slices.Clone(nodes), 0)
	turned := slices.Clone(nodes)
	turned[0] ^= 1
	long := slices.Repeat([]byte{255}, 11)
	return []refusal{
		{nil, api.ErrCut},
		{[]byte{77}, api.ErrKind},
		{slices.Concat(short(77, 4, 9), nodes), api.ErrKind},
		{slices.Concat(short(81, 9, 4), tail), api.ErrKind},
		{[]byte{80}, api.ErrCut},
		{[]byte{80, 132}, api.ErrCut},
		{slices.Concat([]byte{80}, long, nodes), api.ErrRange},
		{slices.Concat([]byte{80, 132, 0, 9}, nodes), api.ErrForm},
		{[]byte{80, 132, 0}, api.ErrForm},
		{[]byte{80, 4}, api.ErrCut},
		{[]byte{80, 5, 137}, api.ErrCut},
		{slices.Concat([]byte{80, 4}, long, nodes), api.ErrRange},
		{slices.Concat([]byte{80, 4, 137, 0}, nodes), api.ErrForm},
		{slices.Concat(short(80, 4, most+1), nodes), api.ErrSize},
		{short(80, 4, far), api.ErrSize},
		{slices.Concat(short(80, 9, 4), nodes), api.ErrSize},
		{short(80, 5, 4), api.ErrSize},
		{short(80, 4, 9), api.ErrCut},
		{slices.Concat(short(80, 4, 9), cut), api.ErrCut},
		{slices.Concat(short(80, 3, 9), nodes[:32]), api.ErrCut},
		{slices.Concat(short(80, 4, 9), tail), api.ErrTail},
		{slices.Concat(short(80, 9, 9), nodes, nodes), api.ErrTail},
		{slices.Concat(short(80, 4, 8), nodes[:2*32]), api.ErrSize},
		{slices.Concat(short(80, 2, 9), nodes, nodes[:32]), api.ErrSize},
		{slices.Concat(short(80, 9, 9), nodes[:2*32]), api.ErrSize},
		{slices.Concat(short(80, 4, 4), nodes[:32]), api.ErrSize},
		{slices.Concat(short(80, 4, 9), turned), api.ErrRoot},
	}
}

// Promise 18.3: each of Prefix's errors, where the link is not there, and where it is; heads that are not known come first.
func TestRefusedBytes(t *testing.T) {
	x := treeOf(t, 32, leaves(0, 9))
	right := linkOf(t, x, 4, 9)
	p := seeing(t, 32, right.a, right.b, headAt(t, x, 2), headAt(t, x, 8))
	for range 2 {
		for _, r := range refusals(right.p) {
			p.Link(link{right.a, right.b, r.p}, r.want)
			p.Link(link{headAt(t, x, 3), right.b, r.p}, api.ErrHead)
			p.Link(link{right.a, headAt(t, x, 3), r.p}, api.ErrHead)
		}
		p.Link(link{right.b, right.a, right.p}, api.ErrSize)
		p.Link(link{right.a, right.a, right.p}, api.ErrSize)
		p.Link(link{right.b, right.b, right.p}, api.ErrSize)
		p.Link(link{headAt(t, x, 2), right.b, right.p}, api.ErrSize)
		p.Link(link{right.a, headAt(t, x, 8), right.p}, api.ErrSize)
		p.Link(right, api.OK)
	}
}

// Promise 18.3: each bit of the bytes counts, and each end of them.
func TestSpoiledBytes(t *testing.T) {
	x := treeOf(t, 32, leaves(0, 7))
	for _, s := range [][2]uint64{{0, 3}, {3, 7}, {7, 7}} {
		right := linkOf(t, x, s[0], s[1])
		j := judge.New(32)
		j.See(right.a)
		j.See(right.b)
		for bit := range 8 * len(right.p) {
			b := slices.Clone(right.p)
			b[bit/8] ^= 1 << (bit % 8)
			if e := j.Link(right.a, right.b, b); e == api.OK {
				t.Fatalf("%v: bit %d is another one", s, bit)
			}
		}
		for end := range right.p {
			if e := j.Link(right.a, right.b, right.p[:end]); e != api.ErrCut {
				t.Fatalf("%v: %d bytes are %v", s, end, e)
			}
		}
		if s[0] < s[1] && j.Leads(right.a, right.b) {
			t.Fatalf("%v: a link is there", s)
		}
	}
}

// Promise 18.3: bytes are judged at the width that the judge was made with: one below 1 is 1, one above 32 is 32.
func TestWidths(t *testing.T) {
	for _, made := range []int{-1 << 40, -1, 0, 1, 2, 16, 31, 32, 33, 1 << 40} {
		for _, w := range []int{1, 2, 16, 31, 32} {
			l := linkOf(t, treeOf(t, w, leaves(0, 9)), 4, 9)
			want := api.ErrRoot
			if min(max(made, 1), 32) == w {
				want = api.OK
			}
			seeing(t, made, l.a, l.b).Link(l, want)
		}
	}
}

// Promise 18.3: sizes up to the greatest, by nodes that nobody has.
func TestLinksOfGreatSizes(t *testing.T) {
	for _, w := range []int{32, 1} {
		for _, s := range [][2]uint64{{0, most}, {1, most}, {most - 1, most}, {most, most}, {most / 2, most - 1}, {most - 1, most - 1}, {1<<32 + 5, 1<<33 + 3}} {
			l := follows(t, w, madeUp(t, s[0], s[1], 50))
			p := seeing(t, w, l.a)
			p.See(l.b, api.OK)
			p.Link(link{l.a, l.b, l.p[:len(l.p)-1]}, api.ErrCut)
			p.Link(l, api.OK)
			if !p.j.Leads(l.a, l.b) || s[0] < s[1] && p.j.Leads(l.b, l.a) {
				t.Errorf("Leads of %v is another one", s)
			}
		}
	}
}

// Promise 18.3: the same link again, with the same bytes and with others that prove it too: OK, and nothing changes. Wrong
// bytes are refused all the same.
func TestTheSameLink(t *testing.T) {
	const w = 1
	x := treeOf(t, w, leaves(0, 9))
	for _, s := range [][2]uint64{{0, 5}, {4, 9}, {5, 6}, {7, 8}} {
		right := prefixOf(t, x, s[0], s[1])
		l := rewritten(t, w, right, len(right.Nodes)-1, 5)
		p := seeing(t, w, headsOf(t, x)...)
		for range 2 {
			for _, k := range l {
				p.Link(k, api.OK)
				p.Link(link{k.a, k.b, k.p[1:]}, api.ErrKind)
				p.Link(link{k.a, k.b, nil}, api.ErrCut)
			}
		}
		if len(p.words.links) != 1 {
			t.Errorf("of %v there are %d links", s, len(p.words.links))
		}
	}
}

// manyLinks are more of a tree's own links than a judge keeps, between its heads.
func manyLinks(t *testing.T) ([]api.Head, []link) {
	t.Helper()
	x := treeOf(t, 32, leaves(0, 92))
	heads := headsOf(t, x)
	var links []link
	for m := range heads {
		for n := m; n < len(heads); n++ {
			links = append(links, link{heads[m], heads[n], bytesOf(t, x, uint64(m), uint64(n))})
		}
	}
	d := dice(3)
	links = mixed(&d, links)
	if len(links) < api.MaxHeads+10 {
		t.Fatalf("just %d links", len(links))
	}
	return heads, links
}

// Promise 18.3: as many links as MaxHeads; one more is ErrLong, behind all other errors; one that is there is OK.
func TestMostLinks(t *testing.T) {
	heads, links := manyLinks(t)
	j := full(t, 32, heads...)
	tell := func(l link, want api.Errno) {
		t.Helper()
		if e := j.Link(l.a, l.b, l.p); e != want {
			t.Fatalf("Link from %d to %d is %v, want %v", l.a.Size, l.b.Size, e, want)
		}
	}
	kept, more := links[:api.MaxHeads], links[api.MaxHeads:]
	for _, l := range kept {
		tell(l, api.OK)
	}
	ahead := ask(j, heads)
	for range 2 {
		for i, l := range more {
			tell(l, api.ErrLong)
			tell(link{l.a, l.b, nil}, api.ErrCut)
			tell(link{l.a, l.b, append(slices.Clone(l.p), 1)}, api.ErrTail)
			tell(link{api.Head{Size: l.a.Size}, l.b, l.p}, api.ErrHead)
			tell(link{l.a, api.Head{Size: l.b.Size}, l.p}, api.ErrHead)
			tell(kept[i], api.OK)
		}
		for _, l := range kept {
			tell(l, api.OK)
		}
	}
	if !ask(j, heads).same(ahead) {
		t.Error("what is asked behind it is answered otherwise")
	}
}

// Promise 18.3: links that are told again, and refused ones, take no room; links have room of their own beside the heads.
func TestToldAgainTakesNoRoom(t *testing.T) {
	heads, links := manyLinks(t)
	j := judge.New(32)
	for _, h := range heads {
		j.See(h)
	}
	for range 2 {
		for _, l := range links[:api.MaxHeads-1] {
			if e := j.Link(l.a, l.b, l.p); e != api.OK {
				t.Fatalf("Link is %v", e)
			}
			if e := j.Link(l.a, l.b, nil); e != api.ErrCut {
				t.Fatalf("Link without bytes is %v", e)
			}
		}
	}
	last, more := links[api.MaxHeads-1], links[api.MaxHeads]
	for _, c := range []struct {
		l    link
		want api.Errno
	}{{last, api.OK}, {more, api.ErrLong}, {last, api.OK}, {more, api.ErrLong}} {
		if e := j.Link(c.l.a, c.l.b, c.l.p); e != c.want {
			t.Errorf("Link is %v, want %v", e, c.want)
		}
	}
	if e := j.See(api.Head{Size: 5000}); e != api.OK {
		t.Errorf("See beside many links is %v", e)
	}
}

// Promise 18.3: a link that was refused as one too many is not there.
func TestOneLinkTooMany(t *testing.T) {
	x := treeOf(t, 32, leaves(0, api.MaxHeads+1))
	j := judge.New(32)
	heads := headsOf(t, x)[1:]
	for _, h := range heads[:api.MaxHeads] {
		j.See(h)
	}
	for i, h := range heads[:api.MaxHeads] {
		n := h.Size
		if e := j.Link(h, h, bytesOf(t, x, n, n)); e != api.OK {
			t.Fatalf("link %d is %v", i, e)
		}
	}
	if e := j.Link(heads[0], heads[1], bytesOf(t, x, 1, 2)); e != api.ErrLong {
		t.Errorf("one more is %v", e)
	}
	if j.Leads(heads[0], heads[1]) {
		t.Error("one more is there")
	}
}
