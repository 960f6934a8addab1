package judge_test

import (
	"bytes"
	"fmt"
	"slices"
	"testing"

	"massif/api"
	"massif/clash"
	"massif/judge"
	"massif/mmr"
	"massif/proof"
	"massif/verify"
)

const (
	most = uint64(api.MaxLeaves)
	far  = ^uint64(0)
)

// widths are some that are within the bounds, at them and beyond.
func widths() []int { return []int{32, 1, 2, 5, 31, 0, -7, 33, 1 << 40} }

// leaf is the n-th of hashes that are all unlike one another; it has bytes behind every width but the greatest.
func leaf(n uint64) api.Hash {
	x := api.Hash{29: 1, 30: 9, 31: byte(n * 7)}
	for i := range 8 {
		x[i] = byte(n >> (8 * i))
	}
	return x
}

// leaves are k of them, from leaf(from) on.
func leaves(from uint64, k int) []api.Hash {
	l := make([]api.Hash, k)
	for i := range l {
		l[i] = leaf(from + uint64(i))
	}
	return l
}

// treeOf is a tree of these leaves.
func treeOf(t *testing.T, w int, l []api.Hash) *mmr.Tree {
	t.Helper()
	x, e := mmr.New(w, 3)
	if e != api.OK {
		t.Fatalf("mmr.New(%d, 3) is %v", w, e)
	}
	for _, h := range l {
		x.Append(h)
	}
	return x
}

// parting is a tree of k leaves that begins with the first ones of leaves(0, ..) and goes on with others.
func parting(t *testing.T, w, shared, k int, other uint64) *mmr.Tree {
	t.Helper()
	return treeOf(t, w, slices.Concat(leaves(0, shared), leaves(1000*other, k-shared)))
}

// headAt is the head of a tree's first n leaves.
func headAt(t *testing.T, x *mmr.Tree, n uint64) api.Head {
	t.Helper()
	r, e := x.Old(n)
	if e != api.OK {
		t.Fatalf("Old(%d) is %v", n, e)
	}
	return api.Head{Size: n, Root: r}
}

// headsOf are those of all sizes that a tree has had.
func headsOf(t *testing.T, x *mmr.Tree) []api.Head {
	t.Helper()
	var l []api.Head
	for n := range x.Size() + 1 {
		l = append(l, headAt(t, x, n))
	}
	return l
}

// bytesOf are those of a tree's prefix proof.
func bytesOf(t *testing.T, x *mmr.Tree, m, n uint64) []byte {
	t.Helper()
	p, e := proof.MakePrefix(x, m, n)
	if e != api.OK {
		t.Fatalf("MakePrefix(%d, %d) is %v", m, n, e)
	}
	return written(t, p)
}

func written(t *testing.T, p api.Prefix) []byte {
	t.Helper()
	b, e := proof.EncodePrefix(p)
	if e != api.OK {
		t.Fatalf("EncodePrefix{%d, %d, %d nodes} is %v", p.From, p.Size, len(p.Nodes), e)
	}
	return b
}

// link is what Link is handed.
type link struct {
	a, b api.Head
	p    []byte
}

// linkOf is one of a tree's own.
func linkOf(t *testing.T, x *mmr.Tree, m, n uint64) link {
	t.Helper()
	return link{headAt(t, x, m), headAt(t, x, n), bytesOf(t, x, m, n)}
}

// follows is the link between the heads that follow from a prefix proof, whatever its nodes are.
func follows(t *testing.T, w int, p api.Prefix) link {
	t.Helper()
	first, second, e := verify.Reach(w, p)
	if e != api.OK {
		t.Fatalf("Reach of %d and %d is %v", p.From, p.Size, e)
	}
	r1, _ := mmr.Bag(w, p.From, first)
	r2, _ := mmr.Bag(w, p.Size, second)
	return link{api.Head{Size: p.From, Root: r1}, api.Head{Size: p.Size, Root: r2}, written(t, p)}
}

// madeUp is a proof of sizes, with nodes that nobody has.
func madeUp(t *testing.T, m, n, from uint64) api.Prefix {
	t.Helper()
	places, e := proof.PrefixPlaces(m, n)
	if e != api.OK {
		t.Fatalf("PrefixPlaces(%d, %d) is %v", m, n, e)
	}
	return api.Prefix{From: m, Size: n, Nodes: leaves(from, len(places))}
}

// forged are k links to the head of p's link from unlike heads of one size, that of p first: the first peak of each is
// another one. With narrow widths they are found soon.
func forged(t *testing.T, w int, p api.Prefix, k int) []link {
	t.Helper()
	l := []link{follows(t, w, p)}
	for try := uint64(0); len(l) < k; try++ {
		if try > 1<<20 {
			t.Fatalf("just %d links of %d and %d with the width %d", len(l), p.From, p.Size, w)
		}
		p.Nodes = slices.Clone(p.Nodes)
		p.Nodes[0] = leaf(1<<40 + try)
		x := follows(t, w, p)
		taken := slices.ContainsFunc(l, func(y link) bool { return y.a == x.a })
		if x.b == l[0].b && !taken {
			l = append(l, x)
		}
	}
	return l
}

// rewritten are k links between the heads of p's link, by unlike bytes, those of p first: the node at of each is another
// one; it is to be none of the earlier peaks.
func rewritten(t *testing.T, w int, p api.Prefix, at, k int) []link {
	t.Helper()
	l := []link{follows(t, w, p)}
	for try := uint64(0); len(l) < k; try++ {
		if try > 1<<20 {
			t.Fatalf("just %d links of %d and %d with the width %d", len(l), p.From, p.Size, w)
		}
		p.Nodes = slices.Clone(p.Nodes)
		p.Nodes[at] = leaf(1<<41 + try)
		if x := follows(t, w, p); x.a == l[0].a && x.b == l[0].b {
			l = append(l, x)
		}
	}
	return l
}

// prefixOf is a tree's own proof.
func prefixOf(t *testing.T, x *mmr.Tree, m, n uint64) api.Prefix {
	t.Helper()
	p, e := proof.MakePrefix(x, m, n)
	if e != api.OK {
		t.Fatalf("MakePrefix(%d, %d) is %v", m, n, e)
	}
	return p
}

// words are a judge by the words of the chapter: the heads and links in the order in which they were told. All else is
// worked out from them anew.
type words struct {
	w     int
	heads []api.Head
	links []link
}

func (x *words) knows(h api.Head) bool { return slices.Contains(x.heads, h) }

func (x *words) See(h api.Head) api.Errno {
	switch {
	case h.Size > most:
		return api.ErrSize
	case x.knows(h):
		return api.OK
	case len(x.heads) == api.MaxHeads:
		return api.ErrLong
	}
	x.heads = append(x.heads, h)
	return api.OK
}

func (x *words) Link(a, b api.Head, p []byte) api.Errno {
	if !x.knows(a) || !x.knows(b) {
		return api.ErrHead
	}
	if e := verify.Prefix(x.w, a.Size, a.Root, b.Size, b.Root, p); e != api.OK {
		return e
	}
	for _, l := range x.links {
		if l.a == a && l.b == b {
			return api.OK
		}
	}
	if len(x.links) == api.MaxHeads {
		return api.ErrLong
	}
	x.links = append(x.links, link{a, b, bytes.Clone(p)})
	return api.OK
}

// below is the order of heads, byte by byte.
func below(a, b api.Head) bool {
	if a.Size != b.Size {
		return a.Size < b.Size
	}
	for i := range a.Root {
		if a.Root[i] != b.Root[i] {
			return a.Root[i] < b.Root[i]
		}
	}
	return false
}

// Heads are put in one by one, each ahead of the first that is above it.
func (x *words) Heads() []api.Head {
	var l []api.Head
	for _, h := range x.heads {
		at := 0
		for at < len(l) && below(l[at], h) {
			at++
		}
		l = slices.Insert(l, at, h)
	}
	return l
}

func (x *words) Forks() []api.Fork {
	var l []api.Fork
	heads := x.Heads()
	for i, a := range heads {
		for j := i + 1; j < len(heads); j++ {
			if b := heads[j]; b.Size == a.Size {
				l = append(l, api.Fork{Size: a.Size, A: a.Root, B: b.Root})
			}
		}
	}
	return l
}

// reached are the heads to which a row of links goes from a: links are gone over until nothing new comes of it.
func (x *words) reached(a api.Head) []api.Head {
	if !x.knows(a) {
		return nil
	}
	l := []api.Head{a}
	for more := true; more; {
		more = false
		for _, k := range x.links {
			if slices.Contains(l, k.a) && !slices.Contains(l, k.b) {
				l, more = append(l, k.b), true
			}
		}
	}
	return l
}

func (x *words) Clash() bool {
	for _, k := range x.links {
		for _, l := range x.links {
			if k.b == l.b && k.a.Size == l.a.Size && k.a.Root != l.a.Root {
				return true
			}
		}
	}
	return false
}

// answers are all that a judge can be asked; leads has a row for each head that is asked about.
type answers struct {
	heads []api.Head
	forks []api.Fork
	leads [][]bool
	clash api.Clash
	told  bool
}

func (x answers) same(y answers) bool {
	return slices.Equal(x.heads, y.heads) && slices.Equal(x.forks, y.forks) &&
		slices.EqualFunc(x.leads, y.leads, slices.Equal[[]bool]) &&
		bytes.Equal(x.clash.A, y.clash.A) && bytes.Equal(x.clash.B, y.clash.B) && x.told == y.told
}

// ask asks all of it, Leads of each two of some heads.
func ask(j *judge.Judge, of []api.Head) answers {
	x := answers{heads: j.Heads(), forks: j.Forks()}
	for _, a := range of {
		var row []bool
		for _, b := range of {
			row = append(row, j.Leads(a, b))
		}
		x.leads = append(x.leads, row)
	}
	x.clash, x.told = j.Clash()
	return x
}

// pair is a judge beside the words: each call is made of both, and behind each all that can be asked is asked of both.
type pair struct {
	t     *testing.T
	w     int
	j     *judge.Judge
	words words
	trace []string   // the calls so far
	other []api.Head // heads about which Leads is asked beside those that are known
	last  answers
}

func newPair(t *testing.T, w int, other ...api.Head) *pair {
	t.Helper()
	j := judge.New(w)
	if j == nil {
		t.Fatalf("New(%d) is nil", w)
	}
	p := &pair{t: t, w: w, j: j, words: words{w: w}, other: slices.Concat(other, strangers())}
	p.same()
	return p
}

// strangers are heads that no tree here has.
func strangers() []api.Head {
	return []api.Head{{}, {Size: 3, Root: leaf(1)}, {Size: most}, {Size: most + 1}, {Size: far, Root: leaf(2)}}
}

// seeing is a pair that was told these heads.
func seeing(t *testing.T, w int, heads ...api.Head) *pair {
	t.Helper()
	p := newPair(t, w)
	for _, h := range heads {
		p.See(h, api.OK)
	}
	return p
}

func (p *pair) fail(what string, got, want any) {
	p.t.Helper()
	p.t.Fatalf("w %d, behind %v: %s is %v, want %v", p.w, p.trace, what, got, want)
}

// See is called, and must answer want.
func (p *pair) See(h api.Head, want api.Errno) {
	p.t.Helper()
	if e := p.anySee(h); e != want {
		p.fail("See", e, want)
	}
}

// anySee is called, and must answer what the words say.
func (p *pair) anySee(h api.Head) api.Errno {
	p.t.Helper()
	was := len(p.words.heads)
	want := p.words.See(h)
	got := p.j.See(h)
	p.called(fmt.Sprintf("See{%d, %x}", h.Size, h.Root[:2]), got, want, len(p.words.heads) > was)
	return got
}

// Link is called, and must answer want.
func (p *pair) Link(l link, want api.Errno) {
	p.t.Helper()
	if e := p.anyLink(l); e != want {
		p.fail("Link", e, want)
	}
}

// anyLink is called, and must answer what the words say.
func (p *pair) anyLink(l link) api.Errno {
	p.t.Helper()
	was := len(p.words.links)
	want := p.words.Link(l.a, l.b, l.p)
	got := p.j.Link(l.a, l.b, l.p)
	p.called(fmt.Sprintf("Link{%d, %x}{%d, %x}", l.a.Size, l.a.Root[:2], l.b.Size, l.b.Root[:2]), got, want, len(p.words.links) > was)
	return got
}

// called is what is asked behind a call: where nothing has changed by the words, each answer is the one ahead of it.
func (p *pair) called(what string, got, want api.Errno, changed bool) {
	p.t.Helper()
	p.trace = append(p.trace, what)
	if got != want {
		p.fail("its answer", got, want)
	}
	ahead := p.last
	p.same()
	if !changed && !p.last.same(ahead) {
		p.fail("what is asked behind it", p.last, ahead)
	}
}

// same asks all that can be asked, and holds it against the words.
func (p *pair) same() {
	p.t.Helper()
	of := slices.Concat(p.words.Heads(), p.other)
	x := ask(p.j, of)
	if want := p.words.Heads(); !slices.Equal(x.heads, want) {
		p.fail("Heads", x.heads, want)
	}
	if want := p.words.Forks(); !slices.Equal(x.forks, want) {
		p.fail("Forks", x.forks, want)
	}
	for i, a := range of {
		reached := p.words.reached(a)
		for k, b := range of {
			if want := slices.Contains(reached, b); x.leads[i][k] != want {
				p.fail(fmt.Sprintf("Leads(%v, %v)", a, b), x.leads[i][k], want)
			}
		}
	}
	checkClash(p, x.clash, x.told, p.words.Clash())
	p.last = x
}

// checkClash is what 18.6 and 18.7 say of what is told.
func checkClash(p *pair, c api.Clash, told, want bool) {
	p.t.Helper()
	switch {
	case told != want:
		p.fail("Clash", told, want)
	case !told && len(c.A)+len(c.B) > 0:
		p.fail("Clash", c, "none")
	case told && !clash.Holds(p.w, c):
		p.fail("Clash", c, "one that holds")
	case told && max(len(c.A), len(c.B)) > 200:
		p.fail("Clash", c, "one with short texts")
	}
}

// room is l with something behind its length.
func room[T any](l []T, more ...T) []T { return slices.Concat(l, more)[:len(l)] }

// overwrite writes over all of a list, and behind it, as far as it has room.
func overwrite[T any](l []T, with T) {
	l = l[:cap(l)]
	for i := range l {
		l[i] = with
	}
}

// dice are numbers that are drawn by a rule, the same in every run.
type dice uint64

func (d *dice) roll(n int) int {
	*d = *d*6364136223846793005 + 1442695040888963407
	return int(uint64(*d>>33) % uint64(n))
}

// mixed is a list in another order.
func mixed[T any](d *dice, l []T) []T {
	l = slices.Clone(l)
	for i := len(l) - 1; i > 0; i-- {
		k := d.roll(i + 1)
		l[i], l[k] = l[k], l[i]
	}
	return l
}

// orders are a list as it is, the other way round, and in two more orders.
func orders[T any](l []T) [][]T {
	back := slices.Clone(l)
	slices.Reverse(back)
	d := dice(7)
	return [][]T{l, back, mixed(&d, l), mixed(&d, l)}
}
