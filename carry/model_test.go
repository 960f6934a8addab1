package carry_test

import (
	"maps"
	"math/bits"
	"slices"
	"testing"

	"massif/api"
	"massif/carry"
	"massif/hash"
	"massif/mmr"
	"massif/proof"
)

const (
	most  = uint64(api.MaxLeaves)
	far   = ^uint64(0)
	crowd = api.MaxFlock
)

// widths are some, of which the outer ones count as 1 and as 32.
func widths() []int { return []int{-7, 0, 1, 2, 5, 31, 32, 33, 1 << 40} }

// h is a hash that is told by a number; it has bytes behind every width but the greatest.
func h(n uint64) api.Hash {
	return api.Hash{0: byte(n), 1: byte(n >> 8), 2: byte(n >> 16), 9: byte(n >> 56), 30: 7, 31: ^byte(n)}
}

// hashes are n of them, from h(first) on.
func hashes(first uint64, n int) []api.Hash {
	var l []api.Hash
	for i := range uint64(n) {
		l = append(l, h(first+i))
	}
	return l
}

// at is a spot.
func at(h int, k uint64) api.Spot { return api.Spot{Height: uint8(h), Index: k} }

func parent(s api.Spot) api.Spot  { return api.Spot{Height: s.Height + 1, Index: s.Index / 2} }
func sibling(s api.Spot) api.Spot { return api.Spot{Height: s.Height, Index: s.Index ^ 1} }

// has tells whether a forest of n leaves has a spot.
func has(s api.Spot, n uint64) bool { return s.Height <= 62 && s.Index < n>>s.Height }

// peakSpots are the spots of the peaks of n leaves: one for each set bit, the highest first.
func peakSpots(n uint64) []api.Spot {
	var l []api.Spot
	for h := 62; h >= 0; h-- {
		if n>>h&1 == 1 {
			l = append(l, at(h, n>>h-1))
		}
	}
	return l
}

// over is the peak of n leaves that stands over the leaf i.
func over(i, n uint64) api.Spot {
	s := at(0, i)
	for has(parent(s), n) {
		s = parent(s)
	}
	return s
}

// proofSpots are the spots of the nodes of a leaf's proof, by the words of 7.1.
func proofSpots(i, n uint64) []api.Spot {
	var l []api.Spot
	for s := at(0, i); has(parent(s), n); s = parent(s) {
		l = append(l, sibling(s))
	}
	for _, p := range peakSpots(n) {
		if p != over(i, n) {
			l = append(l, p)
		}
	}
	return l
}

// known are hashes by their spots.
type known map[api.Spot]api.Hash

// put adds the hashes of these spots.
func (k known) put(spots []api.Spot, l []api.Hash) {
	for j, s := range spots {
		k[s] = l[j]
	}
}

// pick is the hashes of these spots, all of which must be known.
func (k known) pick(t *testing.T, spots []api.Spot) []api.Hash {
	t.Helper()
	var l []api.Hash
	for _, s := range spots {
		x, ok := k[s]
		if !ok {
			t.Fatalf("the node %v is not known", s)
		}
		l = append(l, x)
	}
	return l
}

// plain is a leaf and its proof, carried by the words of 12.3.
type plain struct {
	w    int
	leaf api.Hash
	p    api.Proof
}

func (m *plain) clone() *plain {
	c := *m
	c.p.Nodes = slices.Clone(m.p.Nodes)
	return &c
}

// peaks are what follows from the leaf and the proof, by the words of 8.1: one hash is held.
func (m *plain) peaks() []api.Hash {
	i, n := m.p.Index, m.p.Size
	held, rest := m.leaf, m.p.Nodes
	for s := at(0, i); has(parent(s), n); s = parent(s) {
		if s.Index%2 == 1 {
			held = hash.Node(m.w, rest[0], held)
		} else {
			held = hash.Node(m.w, held, rest[0])
		}
		rest = rest[1:]
	}
	var l []api.Hash
	for _, s := range peakSpots(n) {
		if s == over(i, n) {
			l = append(l, held)
		} else {
			l, rest = append(l, rest[0]), rest[1:]
		}
	}
	return l
}

// refused is which error an event is, by the words of 12.3, for who has these peaks of n leaves.
func refused(ev api.Event, n uint64, peaks []api.Hash) api.Errno {
	switch {
	case ev.Size != n:
		return api.ErrLate
	case n == most:
		return api.ErrFull
	case !slices.Equal(ev.Peaks, peaks):
		return api.ErrPeaks
	}
	return api.OK
}

// on is 12.3, word by word: what the old proof has, the peaks ahead, the new leaf, and the nodes that the append makes, as
// far as both of their kids are known.
func (m *plain) on(t *testing.T, ev api.Event) api.Errno {
	t.Helper()
	if e := refused(ev, m.p.Size, m.peaks()); e != api.OK {
		return e
	}
	i, n := m.p.Index, m.p.Size
	k := known{}
	k.put(proofSpots(i, n), m.p.Nodes)
	k.put(peakSpots(n), ev.Peaks)
	k[at(0, n)] = ev.Leaf
	for s := at(0, n); s.Index%2 == 1; s = parent(s) {
		l, ok := k[sibling(s)]
		r, also := k[s]
		if ok && also {
			k[parent(s)] = hash.Node(m.w, l, r)
		}
	}
	m.p.Nodes = k.pick(t, proofSpots(i, n+1))
	m.p.Size++
	return api.OK
}

// event is the one that the leaf's forest would tell next.
func (m *plain) event(leaf api.Hash) api.Event {
	return api.Event{Size: m.p.Size, Leaf: leaf, Peaks: m.peaks()}
}

// rootOf is the root over peaks, by the words of 6.1.
func rootOf(w int, n uint64, peaks []api.Hash) api.Hash { return hash.Root(w, n, folded(w, peaks)) }

func folded(w int, peaks []api.Hash) api.Hash {
	switch len(peaks) {
	case 0:
		return api.Hash{}
	case 1:
		return peaks[0]
	}
	return hash.Fold(w, peaks[0], folded(w, peaks[1:]))
}

// grown are the peaks behind an append to n leaves: two of one height are put together, as long as there are two.
func grown(w int, n uint64, peaks []api.Hash, leaf api.Hash) []api.Hash {
	l := append(slices.Clone(peaks), leaf)
	for ; n%2 == 1; n /= 2 {
		last := len(l) - 1
		l = append(l[:last-1], hash.Node(w, l[last-1], l[last]))
	}
	return l
}

// herd is a flock as a carry of each of its leaves, by the words of 12.9; and its forest's peaks.
type herd struct {
	w     int
	n     uint64
	peaks []api.Hash
	held  map[uint64]*plain
}

func newHerd(w int, n uint64, peaks []api.Hash) *herd {
	return &herd{w: w, n: n, peaks: slices.Clone(peaks), held: map[uint64]*plain{}}
}

func (m *herd) event(leaf api.Hash) api.Event {
	return api.Event{Size: m.n, Leaf: leaf, Peaks: slices.Clone(m.peaks)}
}

func (m *herd) on(t *testing.T, ev api.Event, hold bool) api.Errno {
	t.Helper()
	if e := refused(ev, m.n, m.peaks); e != api.OK {
		return e
	}
	if hold && len(m.held) == crowd {
		return api.ErrLong
	}
	for i, x := range m.held {
		if e := x.on(t, ev); e != api.OK {
			t.Fatalf("the carry of the leaf %d is not of the forest of %d leaves: %v", i, m.n, e)
		}
	}
	if hold {
		k := known{}
		k.put(peakSpots(m.n), m.peaks)
		m.held[m.n] = &plain{m.w, ev.Leaf, api.Proof{Size: m.n + 1, Index: m.n, Nodes: k.pick(t, proofSpots(m.n, m.n+1))}}
	}
	m.peaks = grown(m.w, m.n, m.peaks, ev.Leaf)
	m.n++
	return api.OK
}

func (m *herd) join(leaf api.Hash, b []byte) api.Errno {
	p, e := proof.Decode(b)
	if e != api.OK {
		return e
	}
	x := &plain{m.w, leaf, p}
	switch {
	case p.Size != m.n:
		return api.ErrSize
	case m.held[p.Index] != nil:
		return api.ErrLive
	case !slices.Equal(x.peaks(), m.peaks):
		return api.ErrRoot
	case len(m.held) == crowd:
		return api.ErrLong
	}
	m.held[p.Index] = x
	return api.OK
}

func (m *herd) leave(i uint64) api.Errno {
	if m.held[i] == nil {
		return api.ErrIndex
	}
	delete(m.held, i)
	return api.OK
}

func (m *herd) indices() []uint64 { return slices.Sorted(maps.Keys(m.held)) }

// carried is a carry, and the plain one that is like it.
func carried(t *testing.T, w int, leaf api.Hash, p api.Proof) (*carry.Carry, *plain) {
	t.Helper()
	c, e := carry.New(w, leaf, p)
	if c == nil || e != api.OK {
		t.Fatalf("New(%d, %x, %v) is %v, %v", w, leaf, p, c, e)
	}
	m := &plain{w, leaf, p}
	return c, m.clone()
}

// flocked is a flock without leaves, and the herd that is like it.
func flocked(t *testing.T, w int, n uint64, peaks []api.Hash) (*carry.Flock, *herd) {
	t.Helper()
	f, e := carry.NewFlock(w, n, peaks)
	if f == nil || e != api.OK {
		t.Fatalf("NewFlock(%d, %d, %x) is %v, %v", w, n, peaks, f, e)
	}
	return f, newHerd(w, n, peaks)
}

// same holds two answers against each other.
func same[A comparable](t *testing.T, when, what string, got, want A) {
	t.Helper()
	if got != want {
		t.Fatalf("%s: %s is %v, want %v", when, what, got, want)
	}
}

// sameList holds two lists against each other; nil and empty ones are one.
func sameList[A comparable](t *testing.T, when, what string, got, want []A) {
	t.Helper()
	if !slices.Equal(got, want) {
		t.Fatalf("%s: %s is %v, want %v", when, what, got, want)
	}
}

func sameProof(a, b api.Proof) bool {
	return a.Size == b.Size && a.Index == b.Index && slices.Equal(a.Nodes, b.Nodes)
}

func sameEvent(a, b api.Event) bool {
	return a.Size == b.Size && a.Leaf == b.Leaf && slices.Equal(a.Peaks, b.Peaks)
}

// hold holds all that can be asked of a carry against the plain one.
func hold(t *testing.T, when string, c *carry.Carry, m *plain) {
	t.Helper()
	peaks := m.peaks()
	same(t, when, "Size", c.Size(), m.p.Size)
	same(t, when, "Leaf", c.Leaf(), m.leaf)
	sameList(t, when, "Peaks", c.Peaks(), peaks)
	same(t, when, "Root", c.Root(), rootOf(m.w, m.p.Size, peaks))
	if got := c.Proof(); !sameProof(got, m.p) {
		t.Fatalf("%s: Proof is %v, want %v", when, got, m.p)
	}
}

// holdFlock holds all that can be asked of a flock against a herd.
func holdFlock(t *testing.T, when string, f *carry.Flock, m *herd) {
	t.Helper()
	same(t, when, "Size", f.Size(), m.n)
	sameList(t, when, "Peaks", f.Peaks(), m.peaks)
	same(t, when, "Root", f.Root(), rootOf(m.w, m.n, m.peaks))
	sameList(t, when, "Held", f.Held(), m.indices())
	for i := range min(m.n, 100) + 2 {
		holdLeaf(t, when, f, m, i)
	}
	for _, i := range append(m.indices(), m.n-1, m.n, m.n+1, most-1, most, most+1, 1<<63, far) {
		holdLeaf(t, when, f, m, i)
	}
}

// holdLeaf holds the proof of a leaf that a flock holds, or that it doesn't hold it.
func holdLeaf(t *testing.T, when string, f *carry.Flock, m *herd, i uint64) {
	t.Helper()
	var want api.Proof
	wantE := api.ErrIndex
	if x := m.held[i]; x != nil {
		want, wantE = x.p, api.OK
	}
	if got, e := f.Proof(i); e != wantE || !sameProof(got, want) {
		t.Fatalf("%s: Proof(%d) is %v, %v, want %v, %v", when, i, got, e, want, wantE)
	}
}

// tree is one with these leaves.
func tree(t *testing.T, w int, leaves []api.Hash) *mmr.Tree {
	t.Helper()
	x, e := mmr.New(w, 4)
	if e != api.OK {
		t.Fatalf("mmr.New(%d, 4) is %v", w, e)
	}
	for _, l := range leaves {
		x.Append(l)
	}
	return x
}

// made is the proof that a tree makes of the leaf i of n.
func made(t *testing.T, s proof.Source, i, n uint64) api.Proof {
	t.Helper()
	p, e := proof.Make(s, i, n)
	if e != api.OK {
		t.Fatalf("Make(%d, %d) is %v", i, n, e)
	}
	return p
}

// raw is a proof in bytes.
func raw(t *testing.T, p api.Proof) []byte {
	t.Helper()
	b, e := proof.Encode(p)
	if e != api.OK {
		t.Fatalf("Encode{%d, %d, %d nodes} is %v", p.Size, p.Index, len(p.Nodes), e)
	}
	return b
}

// events are those of the appends of these leaves to an empty tree.
func events(w int, leaves []api.Hash) []api.Event {
	var l []api.Event
	var peaks []api.Hash
	for n, leaf := range leaves {
		l = append(l, api.Event{Size: uint64(n), Leaf: leaf, Peaks: slices.Clone(peaks)})
		peaks = grown(w, uint64(n), peaks, leaf)
	}
	return l
}

// anyProof is a proof of the leaf i of n with nodes that fit nothing.
func anyProof(i, n, first uint64) api.Proof {
	return api.Proof{Size: n, Index: i, Nodes: hashes(first, len(proofSpots(i, n)))}
}

// anyPeaks are as many hashes as n has peaks.
func anyPeaks(n, first uint64) []api.Hash { return hashes(first, bits.OnesCount64(n)) }

// great are sizes up to MaxLeaves: powers of two, their neighbours, and some between.
func great() []uint64 {
	l := []uint64{300, 0x0123456789abcdef, 0x2aaaaaaaaaaaaaaa, 0x1555555555555555, 0x3ffffffffffffff5}
	for b := 7; b < 62; b += 5 {
		l = append(l, 1<<b-1, 1<<b, 1<<b+1, most-1<<b)
	}
	return append(l, most-2, most-1, most)
}

// within are numbers below n: the ends, the middle, and where peaks begin.
func within(n uint64) []uint64 {
	l := []uint64{0, 1, n / 3, n / 2, n - 2, n - 1}
	for _, s := range peakSpots(n) {
		l = append(l, s.Index<<s.Height, (s.Index<<s.Height)-1)
	}
	l = slices.DeleteFunc(l, func(x uint64) bool { return x >= n })
	slices.Sort(l)
	return slices.Compact(l)
}

// beyond are numbers that are no sizes.
func beyond() []uint64 {
	return []uint64{most + 1, most + 2, 2*most - 1, 2 * most, 1<<63 - 1, 1 << 63, 1<<63 + 1, far - 1, far}
}

// behind is a list with some more in its memory than its length tells.
func behind[T any](l []T, more ...T) []T { return slices.Concat(l, more)[:len(l)] }

// overwrite writes over all of a list, and behind it, as far as it has room.
func overwrite[T any](l []T, with T) {
	l = l[:cap(l)]
	for i := range l {
		l[i] = with
	}
}

// turned is a hash with one bit turned.
func turned(x api.Hash, bit int) api.Hash {
	x[bit/8] ^= 1 << (bit % 8)
	return x
}

// dice are numbers that are drawn by a rule, the same in every run.
type dice uint64

func (d *dice) next(n uint64) uint64 {
	*d = *d*6364136223846793005 + 1442695040888963407
	return uint64(*d>>33) % n
}
