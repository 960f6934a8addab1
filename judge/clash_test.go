package judge_test

import (
	"bytes"
	"slices"
	"testing"

	"massif/api"
	"massif/clash"
	"massif/judge"
)

// linked is a pair that was told these links, and the heads of each ahead of it.
func linked(t *testing.T, w int, links ...link) *pair {
	t.Helper()
	p := newPair(t, w)
	for _, l := range links {
		p.See(l.a, api.OK)
		p.See(l.b, api.OK)
		p.Link(l, api.OK)
	}
	return p
}

// checkTold is whether there is a clash; same has seen to it that it holds.
func checkTold(p *pair, want bool) {
	p.t.Helper()
	if p.last.told != want {
		p.fail("Clash", p.last.told, want)
	}
}

// Promises 18.6, 18.7: two heads of one size that link to one head, at narrow widths and many sizes, in both orders: one
// link tells nothing, the second one tells a clash, and they are a fork.
func TestClashOfTwoLinks(t *testing.T) {
	for _, w := range []int{1, 0, -3} {
		for n := uint64(2); n <= 14; n++ {
			for m := uint64(1); m < n; m++ {
				x := treeOf(t, w, leaves(m*n, int(n)))
				l := forged(t, w, prefixOf(t, x, m, n), 2)
				p := linked(t, w, l[0])
				checkTold(p, false)
				p.See(l[1].a, api.OK)
				checkTold(p, false)
				p.Link(l[1], api.OK)
				checkTold(p, true)
				if len(p.last.forks) != 1 || p.last.forks[0].Size != m {
					t.Fatalf("the forks are %v", p.last.forks)
				}
				checkTold(linked(t, w, l[1], l[0]), true)
			}
		}
	}
}

// Promises 18.6, 18.7: likewise with a width of two bytes, and with great sizes.
func TestClashOfWiderHashes(t *testing.T) {
	for _, s := range [][2]uint64{{1, 2}, {5, 9}, {11, 13}} {
		checkTold(linked(t, 2, forged(t, 2, madeUp(t, s[0], s[1], 8), 2)...), true)
	}
	for _, s := range [][2]uint64{{1, most}, {most - 1, most}, {most / 2, most - 1}} {
		checkTold(linked(t, 1, forged(t, 1, madeUp(t, s[0], s[1], 8), 3)...), true)
	}
}

// Promise 18.6: there is none where the heads of one size link to unlike heads, where heads of unlike sizes link to one,
// where two heads of one size are known and one of them links alone, and where one head links to several.
func TestNoClash(t *testing.T) {
	const w = 1
	x := treeOf(t, w, leaves(0, 9))
	l := forged(t, w, prefixOf(t, x, 5, 9), 2)
	p := newPair(t, w)
	for _, h := range append(headsOf(t, x), l[1].a) {
		p.See(h, api.OK)
	}
	for _, s := range [][2]uint64{{5, 9}, {5, 8}, {5, 5}, {4, 9}, {6, 9}, {0, 9}, {9, 9}, {3, 5}} {
		p.Link(linkOf(t, x, s[0], s[1]), api.OK)
		checkTold(p, false)
	}
	p.Link(follows(t, w, ownPeaks(t, l[1])), api.OK) // from the forged head to itself
	checkTold(p, false)
	p.Link(l[1], api.OK)
	checkTold(p, true)
}

// ownPeaks is the proof that the earlier head of a link is a prefix of itself.
func ownPeaks(t *testing.T, l link) api.Prefix {
	t.Helper()
	p := madeUp(t, l.a.Size, l.a.Size, 0)
	at := len(short(80, l.a.Size, l.b.Size))
	for i := range p.Nodes {
		copy(p.Nodes[i][:], l.p[at+32*i:])
	}
	return p
}

// Promise 18.6: links count one by one: two heads of one size from which rows go to one head, by heads of unlike sizes, are
// no clash, as no two links end there.
func TestNoClashAlongRows(t *testing.T) {
	const w = 1
	x := treeOf(t, w, leaves(0, 9))
	short := linkOf(t, x, 5, 7)
	l := forged(t, w, prefixOf(t, x, 5, 8), 2)
	p := linked(t, w, short, l[1], linkOf(t, x, 7, 9), linkOf(t, x, 8, 9))
	checkLeads(p, short.a, headAt(t, x, 9), true)
	checkLeads(p, l[1].a, headAt(t, x, 9), true)
	checkTold(p, false)
	p.Link(linkOf(t, x, 5, 8), api.OK)
	checkTold(p, true)
}

// Promises 18.6, 18.7: several are to be told: of three and more heads that link to one, of several heads that are linked
// to; whatever comes behind, one is told.
func TestSeveralClashes(t *testing.T) {
	const w = 1
	x := treeOf(t, w, leaves(0, 11))
	var links []link
	for _, s := range [][2]uint64{{5, 9}, {3, 9}, {5, 11}, {8, 11}} {
		links = append(links, forged(t, w, prefixOf(t, x, s[0], s[1]), 4)...)
	}
	for _, l := range orders(links) {
		p := newPair(t, w)
		told := false
		for _, k := range l {
			p.See(k.a, api.OK)
			p.See(k.b, api.OK)
			p.Link(k, api.OK)
			if told && !p.last.told {
				t.Fatal("a clash is told no more")
			}
			told = p.last.told
		}
		checkTold(p, true)
	}
}

// Promise 18.6: the two links need not be those that come first, of their head or of all.
func TestClashAmongMany(t *testing.T) {
	const w = 1
	x := treeOf(t, w, leaves(0, 20))
	for m := uint64(1); m < 20; m++ {
		p := seeing(t, w, headsOf(t, x)...)
		for n := range uint64(20) {
			p.Link(linkOf(t, x, n, 20), api.OK)
		}
		checkTold(p, false)
		l := forged(t, w, prefixOf(t, x, m, 20), 2)[1]
		p.See(l.a, api.OK)
		p.Link(l, api.OK)
		checkTold(p, true)
	}
}

// Promises 18.3, 18.6, 18.8: the bytes that showed a link first are those that a clash comes of; others that are told behind
// change nothing, though another clash would come of them.
func TestClashOfTheFirstBytes(t *testing.T) {
	const w = 1
	x := treeOf(t, w, leaves(0, 11))
	right := prefixOf(t, x, 5, 11)
	two := forged(t, w, right, 2)
	p := linked(t, w, two...)
	was, others := p.last, 0
	for at := 2; at < len(right.Nodes); at++ {
		for _, l := range rewritten(t, w, right, at, 9)[1:] {
			p.Link(l, api.OK)
			if !p.last.same(was) {
				t.Fatal("something else is told")
			}
			if c := forkOf(t, w, l, two[1]); !bytes.Equal(c.A, was.clash.A) || !bytes.Equal(c.B, was.clash.B) {
				others++
			}
		}
	}
	if others == 0 {
		t.Error("all bytes lead to one clash: this test tells nothing")
	}
}

// forkOf is what comes of two links to one head, the lower one first.
func forkOf(t *testing.T, w int, low, high link) api.Clash {
	t.Helper()
	if below(high.a, low.a) {
		low, high = high, low
	}
	c, ok := clash.Fork(w, low.a.Size, low.a.Root, high.a.Root, low.b.Size, low.b.Root, low.p, high.p)
	if !ok {
		t.Fatal("no clash of two links")
	}
	return c
}

// Promise 18.6, rule R4: the same clash in each judge that was told the same, in whatever order, and each time that one is
// asked.
func TestTheSameClash(t *testing.T) {
	const w = 1
	x := treeOf(t, w, leaves(0, 11))
	links := slices.Concat(forged(t, w, prefixOf(t, x, 5, 9), 6), forged(t, w, prefixOf(t, x, 3, 11), 6), forged(t, w, prefixOf(t, x, 8, 11), 6))
	d := dice(11)
	var first api.Clash
	for try := range 60 {
		j := judge.New(w)
		for _, l := range mixed(&d, links) {
			j.See(l.b)
			j.See(l.a)
			if e := j.Link(l.a, l.b, l.p); e != api.OK {
				t.Fatalf("Link is %v", e)
			}
		}
		for range 3 {
			c, ok := j.Clash()
			if !ok || !clash.Holds(w, c) {
				t.Fatalf("Clash is %v, %v", c, ok)
			}
			if try == 0 {
				first = c
			}
			if !bytes.Equal(c.A, first.A) || !bytes.Equal(c.B, first.B) {
				t.Fatalf("Clash is %v, want %v", c, first)
			}
		}
	}
}

// Promise 18.7: what is a clash at the judge's width need not be one at another: wide hashes tell none of what is forged at
// narrow ones, as they do not accept it.
func TestClashHasTheWidth(t *testing.T) {
	l := forged(t, 1, madeUp(t, 5, 9, 3), 2)
	for _, w := range []int{2, 32} {
		p := seeing(t, w, l[0].a, l[1].a, l[0].b)
		p.Link(l[0], api.ErrRoot)
		p.Link(l[1], api.ErrRoot)
		checkTold(p, false)
	}
}
