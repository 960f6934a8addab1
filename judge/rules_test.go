package judge_test

import (
	"bytes"
	"slices"
	"testing"

	"massif/api"
	"massif/judge"
)

// Rule R3: bytes are read up to their length, not changed, and not kept: written over behind the call, they change nothing,
// the clash that comes of them neither.
func TestBytesAreNotKept(t *testing.T) {
	const w = 1
	x := treeOf(t, w, leaves(0, 9))
	for _, s := range [][2]uint64{{1, 2}, {3, 8}, {5, 9}, {8, 9}} {
		two := forged(t, w, prefixOf(t, x, s[0], s[1]), 2)
		want := linked(t, w, two...).last
		p := newPair(t, w)
		var handed [][]byte
		for _, l := range two {
			b := room(l.p, 1, 2, 3)
			was := bytes.Clone(b[:cap(b)])
			p.See(l.a, api.OK)
			p.See(l.b, api.OK)
			p.Link(link{l.a, l.b, b}, api.OK)
			if !bytes.Equal(b[:cap(b)], was) {
				t.Fatalf("%v: Link has changed bytes, or what lies behind", s)
			}
			handed = append(handed, b)
		}
		for _, b := range handed {
			overwrite(b, 9)
		}
		p.same()
		if !p.last.told || !p.last.same(want) {
			t.Fatalf("%v: what is asked is answered otherwise", s)
		}
	}
}

// Rule R3: what lies behind the length of the bytes is not read: the rest of a right proof, or something behind its end.
func TestNothingBehindIsRead(t *testing.T) {
	x := treeOf(t, 32, leaves(0, 9))
	l := linkOf(t, x, 3, 9)
	p := seeing(t, 32, l.a, l.b)
	for end := range l.p {
		p.Link(link{l.a, l.b, l.p[:end]}, api.ErrCut)
	}
	p.Link(link{l.a, l.b, room(l.p, l.p...)}, api.OK)
}

// Rule R3: bytes that are refused are not changed, or kept.
func TestRefusedBytesAreNotChanged(t *testing.T) {
	x := treeOf(t, 32, leaves(0, 9))
	right := linkOf(t, x, 4, 9)
	p := seeing(t, 32, right.a, right.b)
	for _, r := range refusals(right.p) {
		b := room(r.p, 7, 8)
		was := bytes.Clone(b[:cap(b)])
		p.Link(link{right.a, right.b, b}, r.want)
		if !bytes.Equal(b[:cap(b)], was) {
			t.Fatalf("a Link that is refused by %v has changed bytes", r.want)
		}
		overwrite(b, 80)
		p.same()
	}
	p.Link(right, api.OK)
}

// Rule R3: nil bytes and empty ones are one.
func TestNilAndEmpty(t *testing.T) {
	x := treeOf(t, 32, leaves(0, 2))
	l := linkOf(t, x, 1, 2)
	p := seeing(t, 32, l.a, l.b)
	p.Link(link{l.a, l.b, nil}, api.ErrCut)
	p.Link(link{l.a, l.b, []byte{}}, api.ErrCut)
	p.Link(link{l.a, l.b, l.p[:0]}, api.ErrCut)
}

// Rule R3: what is answered is the caller's own: written over, and behind its length, and appended to, it changes neither
// the judge nor another answer.
func TestAnswersAreNew(t *testing.T) {
	const w = 1
	x := treeOf(t, w, leaves(0, 11))
	p := linked(t, w, slices.Concat(forged(t, w, prefixOf(t, x, 5, 9), 4), forged(t, w, prefixOf(t, x, 3, 11), 3))...)
	first, second := ask(p.j, nil), ask(p.j, nil)
	overwrite(first.heads, api.Head{Size: 77})
	overwrite(first.forks, api.Fork{Size: 77})
	overwrite(first.clash.A, 77)
	_ = append(first.heads[:2], api.Head{Size: 78})
	_ = append(first.forks[:2], api.Fork{Size: 78})
	_ = append(first.clash.A, 78, 79)
	if bytes.Equal(first.clash.A, second.clash.A) || !bytes.Equal(first.clash.B, second.clash.B) {
		t.Error("a clash shares memory")
	}
	overwrite(first.clash.B, 80)
	_ = append(first.clash.B, 81, 82)
	if slices.Contains(first.clash.A, 80) || slices.Contains(first.clash.A, 81) {
		t.Error("the two texts share memory")
	}
	if !ask(p.j, nil).same(second) {
		t.Error("an answer that is written over changes what is told")
	}
	p.same()
}

// Rule R2, promise 18.8: behind each error each question is answered as ahead of it (each call of a pair is held against
// that), in a judge with forks, links and a clash.
func TestErrorsChangeNothing(t *testing.T) {
	const w = 1
	x := treeOf(t, w, leaves(0, 9))
	p := linked(t, w, forged(t, w, prefixOf(t, x, 4, 9), 3)...)
	p.See(api.Head{Size: 4, Root: leaf(3)}, api.OK)
	ahead := p.last
	right := linkOf(t, x, 4, 9)
	for range 2 {
		p.See(api.Head{Size: most + 1}, api.ErrSize)
		p.Link(linkOf(t, x, 3, 9), api.ErrHead)
		p.Link(linkOf(t, x, 4, 8), api.ErrHead)
		p.Link(link{right.b, right.a, right.p}, api.ErrSize)
		p.Link(link{api.Head{Size: 4, Root: leaf(3)}, right.b, right.p}, api.ErrRoot)
		p.Link(link{right.a, right.b, right.p[:8]}, api.ErrCut)
		p.Link(right, api.OK)
	}
	if !p.last.same(ahead) {
		t.Error("something has changed")
	}
}

// Promise 18.8: questions change nothing, whatever is asked first.
func TestQuestionsChangeNothing(t *testing.T) {
	const w = 1
	x := treeOf(t, w, leaves(0, 9))
	links := append(forged(t, w, prefixOf(t, x, 4, 9), 3), linkOf(t, x, 2, 4))
	asked, quiet := linked(t, w, links...), judge.New(w)
	for _, l := range links {
		quiet.See(l.a)
		quiet.See(l.b)
		quiet.Link(l.a, l.b, l.p)
	}
	of := slices.Concat(asked.words.heads, strangers())
	want := ask(asked.j, of)
	for range 3 {
		if !ask(quiet, of).same(want) {
			t.Fatal("what is asked changes what is told")
		}
	}
	for _, h := range strangers() {
		if quiet.Leads(h, h) || quiet.Link(h, h, nil) != api.ErrHead {
			t.Error("a head that was asked about is known")
		}
	}
}

// told is one thing that a judge is told: a head, or a link.
type told struct {
	head   api.Head
	link   link
	isLink bool
}

func (x told) to(p *pair) api.Errno {
	p.t.Helper()
	if x.isLink {
		return p.anyLink(x.link)
	}
	return p.anySee(x.head)
}

// world is what judges of a width are told of: trees that part, and links that are forged where the width is narrow.
type world struct {
	heads []api.Head
	links []link
}

func worldOf(t *testing.T, w int) world {
	t.Helper()
	x, y, z := treeOf(t, w, leaves(0, 7)), parting(t, w, 3, 7, 2), parting(t, w, 5, 7, 3)
	var o world
	for m := range uint64(8) {
		for n := m; n <= 7; n++ {
			o.links = append(o.links, linkOf(t, x, m, n), linkOf(t, y, m, n), linkOf(t, z, m, n))
		}
	}
	if w == 1 {
		for _, s := range [][2]uint64{{2, 6}, {4, 7}, {6, 7}} {
			p := prefixOf(t, x, s[0], s[1])
			wrong := slices.Concat(forged(t, w, p, 3), rewritten(t, w, p, len(p.Nodes)-1, 3))
			o.links = append(o.links, slices.Repeat(wrong, 8)...) // so that they are drawn often
		}
	}
	for _, l := range o.links {
		o.heads = append(o.heads, l.a, l.b)
	}
	return o
}

// drawn is a thing of a world, that is right or wrong where it is told: what the words say of it is what counts.
func (o world) drawn(d *dice) told {
	h := o.heads[d.roll(len(o.heads))]
	l := o.links[d.roll(len(o.links))]
	switch d.roll(12) {
	case 0, 1, 2, 3:
		return told{head: h}
	case 4:
		h.Size += most - 3
		return told{head: h}
	case 5:
		h.Root[d.roll(32)] ^= byte(1 << d.roll(8))
		return told{head: h}
	case 6:
		l.p = slices.Clone(l.p)
		l.p[d.roll(len(l.p))] ^= byte(1 << d.roll(8))
	case 7:
		l.a = h
	case 8:
		l.p = l.p[:d.roll(len(l.p)+1)]
	}
	return told{link: l, isLink: true}
}

// Promises 18.1 to 18.8: rows of things that are drawn, right ones and wrong ones, are answered as the words say.
func TestDrawn(t *testing.T) {
	met, clashes := map[api.Errno]int{}, 0
	for _, w := range []int{32, 1, 2} {
		o := worldOf(t, w)
		for seed := range 12 {
			d := dice(seed)
			p := newPair(t, w)
			for range 120 {
				met[o.drawn(&d).to(p)]++
			}
			if p.last.told {
				clashes++
			}
		}
	}
	for _, e := range []api.Errno{api.OK, api.ErrHead, api.ErrSize, api.ErrRoot, api.ErrCut} {
		if met[e] < 20 {
			t.Errorf("of all that was drawn just %d times %v came of it", met[e], e)
		}
	}
	if clashes < 3 {
		t.Errorf("just %d clashes", clashes)
	}
}

// Promises 18.1, 18.8, rule R4: the same heads and links in another order leave the same answers.
func TestOtherOrders(t *testing.T) {
	for _, w := range []int{32, 1} {
		o := worldOf(t, w)
		d := dice(w)
		of := slices.Concat(o.heads[:12], strangers())
		var want answers
		for try := range 6 {
			p := judge.New(w)
			for _, h := range mixed(&d, o.heads) {
				p.See(h)
			}
			links := o.links
			if w == 1 { // of the links that are told twice, the same bytes are to come first
				links = firstOf(links)
			}
			for _, l := range mixed(&d, links) {
				if e := p.Link(l.a, l.b, l.p); e != api.OK {
					t.Fatalf("Link is %v", e)
				}
			}
			x := ask(p, of)
			if try == 0 {
				want = x
			}
			if !x.same(want) {
				t.Fatalf("w %d: another order leaves other answers", w)
			}
		}
	}
}

// firstOf are links without those between heads that an earlier one is between.
func firstOf(links []link) []link {
	var l []link
	for _, k := range links {
		if !slices.ContainsFunc(l, func(y link) bool { return y.a == k.a && y.b == k.b }) {
			l = append(l, k)
		}
	}
	return l
}

// Rule R4: judges in turns answer as each of them alone does.
func TestInTurns(t *testing.T) {
	worlds := map[int]world{1: worldOf(t, 1), 32: worldOf(t, 32)}
	for seed := range 4 {
		var pairs []*pair
		for _, w := range []int{1, 32, 1} {
			pairs = append(pairs, newPair(t, w))
		}
		d := dice(seed)
		for range 80 {
			for _, p := range pairs {
				worlds[p.w].drawn(&d).to(p)
			}
			for _, p := range pairs {
				ahead := p.last
				p.same()
				if !p.last.same(ahead) {
					p.fail("what is asked", p.last, ahead)
				}
			}
		}
	}
}

// Rule R4: one judge knows nothing of what another one was told.
func TestTwoJudges(t *testing.T) {
	const w = 1
	x := treeOf(t, w, leaves(0, 9))
	l := forged(t, w, prefixOf(t, x, 4, 9), 2)
	p, q := newPair(t, w), newPair(t, w)
	for _, k := range l {
		p.See(k.a, api.OK)
		q.Link(k, api.ErrHead)
		p.See(k.b, api.OK)
		p.Link(k, api.OK)
		q.same()
	}
	checkTold(p, true)
	q.See(l[1].a, api.OK)
	q.See(l[1].b, api.OK)
	checkLeads(q, l[1].a, l[1].b, false)
	q.Link(l[1], api.OK)
	checkTold(q, false)
	p.same()
}

// Rule R1: a judge that nobody has made by New ends and does not panic either.
func TestNobodysJudge(t *testing.T) {
	var j judge.Judge
	x := treeOf(t, 1, leaves(0, 3))
	l := linkOf(t, x, 1, 3)
	if len(j.Heads())+len(j.Forks()) > 0 || j.Leads(l.a, l.a) || j.Link(l.a, l.b, l.p) != api.ErrHead {
		t.Error("it knows something")
	}
	if j.See(l.a) != api.OK || j.See(l.b) != api.OK || j.Link(l.a, l.b, l.p) != api.OK || !j.Leads(l.a, l.b) {
		t.Error("it is told nothing")
	}
}
