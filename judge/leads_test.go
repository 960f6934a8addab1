package judge_test

import (
	"slices"
	"testing"

	"massif/api"
	"massif/judge"
)

// checkLeads holds Leads against what is wanted of two heads.
func checkLeads(p *pair, a, b api.Head, want bool) {
	p.t.Helper()
	if got := p.j.Leads(a, b); got != want {
		p.fail("Leads", got, want)
	}
}

// Promise 18.5: along rows of several links, told in each order; not in the other direction, nor across a gap.
func TestLeadsAlongRows(t *testing.T) {
	x := treeOf(t, 32, leaves(0, 12))
	heads := headsOf(t, x)
	var links []link
	for _, s := range [][2]uint64{{0, 1}, {1, 4}, {4, 5}, {5, 6}, {7, 8}, {8, 12}} {
		links = append(links, linkOf(t, x, s[0], s[1]))
	}
	for _, l := range orders(links) {
		p := seeing(t, 32, heads...)
		for _, k := range l {
			p.Link(k, api.OK)
		}
		checkLeads(p, heads[0], heads[6], true)
		checkLeads(p, heads[6], heads[0], false)
		checkLeads(p, heads[7], heads[12], true)
		checkLeads(p, heads[6], heads[7], false)
		checkLeads(p, heads[0], heads[12], false)
		checkLeads(p, heads[2], heads[4], false) // a size between two that are linked
		checkLeads(p, heads[3], heads[3], true)
		p.Link(linkOf(t, x, 6, 7), api.OK)
		checkLeads(p, heads[0], heads[12], true)
		checkLeads(p, heads[12], heads[0], false)
	}
}

// Promise 18.5: around a fork: two trees' heads are led to from where they part on, and neither leads to the other.
func TestLeadsAroundForks(t *testing.T) {
	x, y := treeOf(t, 32, leaves(0, 9)), parting(t, 32, 4, 9, 2)
	p := seeing(t, 32, slices.Concat(headsOf(t, x), headsOf(t, y))...)
	for n := range uint64(9) {
		p.Link(linkOf(t, x, n, n+1), api.OK)
		p.Link(linkOf(t, y, n, n+1), api.OK)
	}
	for m := range uint64(10) {
		for n := range uint64(10) {
			checkLeads(p, headAt(t, x, m), headAt(t, x, n), m <= n)
			checkLeads(p, headAt(t, x, m), headAt(t, y, n), m <= n && m <= 4)
			checkLeads(p, headAt(t, y, m), headAt(t, x, n), m <= n && m <= 4)
		}
	}
}

// Promises 18.5, 18.6: two rows from one head to another: no clash, as no two heads of one size link to one head.
func TestLeadsByTwoRows(t *testing.T) {
	x := treeOf(t, 32, leaves(0, 9))
	p := seeing(t, 32, headsOf(t, x)...)
	for _, s := range [][2]uint64{{2, 4}, {4, 8}, {2, 5}, {5, 8}, {2, 8}, {8, 9}} {
		p.Link(linkOf(t, x, s[0], s[1]), api.OK)
	}
	checkLeads(p, headAt(t, x, 2), headAt(t, x, 9), true)
	checkLeads(p, headAt(t, x, 4), headAt(t, x, 5), false)
}

// Promise 18.5: what is not known leads nowhere, not to itself either, and nothing leads there.
func TestLeadsOfUnknownHeads(t *testing.T) {
	x := treeOf(t, 32, leaves(0, 9))
	p := newPair(t, 32, headsOf(t, x)...)
	for n := range uint64(10) {
		checkLeads(p, headAt(t, x, n), headAt(t, x, n), false)
	}
	p.See(headAt(t, x, 3), api.OK)
	p.See(headAt(t, x, 7), api.OK)
	p.Link(linkOf(t, x, 3, 7), api.OK)
	p.Link(linkOf(t, x, 3, 5), api.ErrHead)
	p.Link(linkOf(t, x, 5, 7), api.ErrHead)
	near := headAt(t, x, 7)
	near.Root[31] ^= 1
	checkLeads(p, headAt(t, x, 3), near, false)
	checkLeads(p, near, near, false)
	p.See(near, api.OK)
	checkLeads(p, near, near, true)
	checkLeads(p, headAt(t, x, 3), near, false)
}

// Promise 18.5: a row of as many links as there can be, and all links that there can be between few heads: each answer
// comes soon.
func TestLeadsFar(t *testing.T) {
	x := treeOf(t, 32, leaves(0, api.MaxHeads-1))
	heads := headsOf(t, x)
	j := judge.New(32)
	for _, h := range heads {
		j.See(h)
	}
	for n := range uint64(len(heads) - 1) {
		if e := j.Link(heads[n], heads[n+1], bytesOf(t, x, n, n+1)); e != api.OK {
			t.Fatalf("link %d is %v", n, e)
		}
	}
	last := heads[len(heads)-1]
	for n := 0; n < len(heads); n += 97 {
		if !j.Leads(heads[n], last) || !j.Leads(heads[0], heads[n]) || n > 0 && j.Leads(heads[n], heads[n-1]) {
			t.Fatalf("Leads of %d is another one", n)
		}
	}
	if _, ok := j.Clash(); ok {
		t.Error("one tree has a clash")
	}
}

// Promise 18.5: many ways from head to head, all of which end ahead of the one that is asked for.
func TestLeadsByManyWays(t *testing.T) {
	heads, links := manyLinks(t)
	j := judge.New(32)
	stray := api.Head{Size: 1, Root: leaf(9)}
	for _, h := range append(heads, stray) {
		j.See(h)
	}
	for _, l := range links[:api.MaxHeads] {
		if e := j.Link(l.a, l.b, l.p); e != api.OK {
			t.Fatalf("Link is %v", e)
		}
	}
	for _, h := range heads {
		if j.Leads(stray, h) || j.Leads(h, stray) {
			t.Fatal("a head without links leads somewhere")
		}
	}
}
