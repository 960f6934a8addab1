package keep_test

import (
	"maps"
	"math/bits"
	"slices"
	"testing"

	"massif/api"
	"massif/hash"
	"massif/keep"
)

const (
	most = uint64(api.MaxLeaves)
	far  = ^uint64(0)
	full = 1 << 30 // pins of a leaf
)

// h is a hash that is told by a number; it has bytes behind every width but the greatest.
func h(n uint64) api.Hash {
	return api.Hash{0: byte(n), 1: byte(n >> 8), 2: byte(n >> 16), 30: 7, 31: ^byte(n)}
}

// hashes are n of them, from h(first) on.
func hashes(first uint64, n int) []api.Hash {
	var l []api.Hash
	for i := range uint64(n) {
		l = append(l, h(first+i))
	}
	return l
}

// at is a spot.
func at(h int, k uint64) api.Spot { return api.Spot{Height: uint8(h), Index: k} }

func parent(s api.Spot) api.Spot  { return api.Spot{Height: s.Height + 1, Index: s.Index / 2} }
func sibling(s api.Spot) api.Spot { return api.Spot{Height: s.Height, Index: s.Index ^ 1} }

// has tells whether a forest of n leaves has a spot.
func has(s api.Spot, n uint64) bool { return s.Height <= 62 && s.Index < n>>s.Height }

// count is how many nodes a forest of n leaves has.
func count(n uint64) uint64 { return 2*n - uint64(bits.OnesCount64(n)) }

// place is where a spot stands: behind all that was made ahead of its last leaf, and as many nodes up as it is high.
func place(s api.Spot) uint64 {
	return count((s.Index+1)<<s.Height-1) + uint64(s.Height)
}

// placesOf are the places of spots.
func placesOf(l []api.Spot) []uint64 {
	var places []uint64
	for _, s := range l {
		places = append(places, place(s))
	}
	return places
}

// made are the spots of a forest of n leaves, in the order in which they are made: at the place 0, at 1, ..
func made(n uint64) []api.Spot {
	var l []api.Spot
	for i := range n {
		s := at(0, i)
		l = append(l, s)
		for s.Index%2 == 1 {
			s = parent(s)
			l = append(l, s)
		}
	}
	return l
}

// peaks are the spots of the peaks of n leaves: one for each set bit, the highest first.
func peaks(n uint64) []api.Spot {
	var l []api.Spot
	for h := 62; h >= 0; h-- {
		if n>>h&1 == 1 {
			l = append(l, at(h, n>>h-1))
		}
	}
	return l
}

// ofLeaf are the places of the nodes of a leaf's proof, by the words of 7.1.
func ofLeaf(i, n uint64) []uint64 {
	var l []api.Spot
	s := at(0, i)
	for ; has(parent(s), n); s = parent(s) {
		l = append(l, sibling(s))
	}
	for _, p := range peaks(n) {
		if p != s {
			l = append(l, p)
		}
	}
	return placesOf(l)
}

// ofPrefix are the places of the nodes of a prefix proof, by the words of 7.2: the leaves from m on are cut into the
// greatest trees that begin there, and end by n.
func ofPrefix(m, n uint64) []uint64 {
	l := peaks(m)
	for m < n {
		h := 62
		for m%(1<<h) != 0 || n-m < 1<<h {
			h--
		}
		l = append(l, at(h, m>>h))
		m += 1 << h
	}
	return placesOf(l)
}

// ofMany are the places of the nodes that leaves need, by the words of 10.1, of all nodes one by one.
func ofMany(index []uint64, n uint64) []uint64 {
	over := func(s api.Spot) bool {
		return slices.ContainsFunc(index, func(i uint64) bool { return i>>s.Height == s.Index })
	}
	var l []uint64
	for p, s := range made(n) {
		if !over(s) && (!has(parent(s), n) || over(parent(s))) {
			l = append(l, uint64(p))
		}
	}
	return l
}

// plain is a keep as the hashes of all nodes that were ever made, by their places; which of them live; and pins.
type plain struct {
	w, log int
	n      uint64
	nodes  []api.Hash
	live   []bool
	pins   map[uint64]int
}

func empty(w, log int) *plain { return &plain{w: w, log: log, pins: map[uint64]int{}} }

// grown is one of n leaves h(first), h(first + 1), ..
func grown(w, log int, first uint64, n int) *plain {
	m := empty(w, log)
	for _, l := range hashes(first, n) {
		m.append(l)
	}
	return m
}

func (m *plain) clone() *plain {
	c := *m
	c.nodes, c.live, c.pins = slices.Clone(m.nodes), slices.Clone(m.live), maps.Clone(m.pins)
	return &c
}

func (m *plain) push(x api.Hash) {
	m.nodes = append(m.nodes, x)
	m.live = append(m.live, true)
}

func (m *plain) append(leaf api.Hash) uint64 {
	s := at(0, m.n)
	m.push(leaf)
	for s.Index%2 == 1 {
		m.push(hash.Node(m.w, m.nodes[place(sibling(s))], m.nodes[place(s)]))
		s = parent(s)
	}
	m.n++
	return m.n - 1
}

// next are the nodes that these leaves more make.
func (m *plain) next(leaves []api.Hash) []api.Hash {
	c := m.clone()
	for _, l := range leaves {
		c.append(l)
	}
	return c.nodes[len(m.nodes):]
}

func (m *plain) alive(p uint64) bool { return p < uint64(len(m.live)) && m.live[p] }

// allAlive tells whether all of these live.
func (m *plain) allAlive(places []uint64) bool {
	return !slices.ContainsFunc(places, func(p uint64) bool { return !m.alive(p) })
}

// pick are the hashes at these places, living or not.
func (m *plain) pick(places []uint64) []api.Hash {
	var l []api.Hash
	for _, p := range places {
		l = append(l, m.nodes[p])
	}
	return l
}

func (m *plain) node(p uint64) (api.Hash, api.Errno) {
	switch {
	case p >= uint64(len(m.nodes)):
		return api.Hash{}, api.ErrPlace
	case !m.live[p]:
		return api.Hash{}, api.ErrPruned
	}
	return m.nodes[p], api.OK
}

func (m *plain) living() []uint64 {
	var l []uint64
	for p := range m.live {
		if m.live[p] {
			l = append(l, uint64(p))
		}
	}
	return l
}

func (m *plain) chunks() int { return chunksOf(m.living(), m.log) }

// chunksOf is how many unlike quotients places have.
func chunksOf(places []uint64, log int) int {
	met := map[uint64]int{}
	for _, p := range places {
		met[p/(1<<log)]++
	}
	return len(met)
}

func (m *plain) pin(i uint64) api.Errno {
	switch {
	case i >= m.n:
		return api.ErrIndex
	case !m.allAlive(ofLeaf(i, m.n)):
		return api.ErrPruned
	case m.pins[i] == full:
		return api.ErrFull
	}
	m.pins[i]++
	return api.OK
}

func (m *plain) unpin(i uint64) api.Errno {
	switch {
	case i >= m.n:
		return api.ErrIndex
	case m.pins[i] == 0:
		return api.ErrPin
	}
	m.pins[i]--
	return api.OK
}

func (m *plain) pinned() []uint64 {
	var l []uint64
	for i := range m.n {
		if m.pins[i] > 0 {
			l = append(l, i)
		}
	}
	return l
}

// prune is by the words of 11.3: of each node it is asked whether it is one of those.
func (m *plain) prune() uint64 {
	stay := placesOf(peaks(m.n))
	for _, i := range m.pinned() {
		stay = append(stay, ofLeaf(i, m.n)...)
	}
	gone := uint64(0)
	for _, p := range m.living() {
		if !slices.Contains(stay, p) {
			m.live[p] = false
			gone++
		}
	}
	return gone
}

func (m *plain) peaks() []api.Hash { return m.pick(placesOf(peaks(m.n))) }

func (m *plain) root() api.Hash { return hash.Root(m.w, m.n, folded(m.w, m.peaks())) }

func folded(w int, peaks []api.Hash) api.Hash {
	switch len(peaks) {
	case 0:
		return api.Hash{}
	case 1:
		return peaks[0]
	}
	return hash.Fold(w, peaks[0], folded(w, peaks[1:]))
}

func (m *plain) prove(i uint64) (api.Proof, api.Errno) {
	if i >= m.n {
		return api.Proof{}, api.ErrIndex
	}
	l := ofLeaf(i, m.n)
	if !m.allAlive(l) {
		return api.Proof{}, api.ErrPruned
	}
	return api.Proof{Size: m.n, Index: i, Nodes: m.pick(l)}, api.OK
}

func (m *plain) provePrefix(from uint64) (api.Prefix, api.Errno) {
	if from > m.n {
		return api.Prefix{}, api.ErrSize
	}
	l := ofPrefix(from, m.n)
	if !m.allAlive(l) {
		return api.Prefix{}, api.ErrPruned
	}
	return api.Prefix{From: from, Size: m.n, Nodes: m.pick(l)}, api.OK
}

func (m *plain) proveMany(index []uint64) (api.Many, api.Errno) {
	for k, i := range index {
		switch {
		case k > 0 && i <= index[k-1]:
			return api.Many{}, api.ErrOrder
		case i >= m.n:
			return api.Many{}, api.ErrIndex
		}
	}
	l := ofMany(index, m.n)
	if !m.allAlive(l) {
		return api.Many{}, api.ErrPruned
	}
	return api.Many{Size: m.n, Index: index, Nodes: m.pick(l)}, api.OK
}

// theirPins are the pins of a keep as From takes them.
func (m *plain) theirPins() map[uint64]int {
	pins := map[uint64]int{}
	for _, i := range m.pinned() {
		pins[i] = m.pins[i]
	}
	return pins
}

// fresh is a keep without leaves.
func fresh(t *testing.T, w, log int) *keep.Keep {
	t.Helper()
	k, e := keep.New(w, log)
	if e != api.OK || k == nil {
		t.Fatalf("New(%d, %d) is %v, %v", w, log, k, e)
	}
	return k
}

// of is a keep of n leaves h(first), .., and the plain one that is like it.
func of(t *testing.T, w, log int, first uint64, n int) (*keep.Keep, *plain) {
	t.Helper()
	k := fresh(t, w, log)
	for i, l := range hashes(first, n) {
		if got := k.Append(l); got != uint64(i) {
			t.Fatalf("Append is %d, want %d", got, i)
		}
	}
	return k, grown(w, log, first, n)
}

// same holds two answers against each other.
func same[A comparable](t *testing.T, when, what string, got, want A) {
	t.Helper()
	if got != want {
		t.Fatalf("%s: %s is %v, want %v", when, what, got, want)
	}
}

// sameList holds two lists against each other; nil and empty ones are one.
func sameList[A comparable](t *testing.T, when, what string, got, want []A) {
	t.Helper()
	if !slices.Equal(got, want) {
		t.Fatalf("%s: %s is %v, want %v", when, what, got, want)
	}
}

// hold holds all that can be asked of a keep, changing nothing, against the plain one; of ProveMany some lists.
func hold(t *testing.T, when string, k *keep.Keep, m *plain) {
	t.Helper()
	same(t, when, "Size", k.Size(), m.n)
	same(t, when, "Width", k.Width(), min(max(m.w, 1), 32))
	same(t, when, "Log", k.Log(), m.log)
	same(t, when, "Chunks", k.Chunks(), m.chunks())
	same(t, when, "Root", k.Root(), m.root())
	sameList(t, when, "Peaks", k.Peaks(), m.peaks())
	sameList(t, when, "Live", k.Live(), m.living())
	sameList(t, when, "Pinned", k.Pinned(), m.pinned())
	holdNodes(t, when, k, m)
	for i := range m.n + 2 {
		holdLeaf(t, when, k, m, i)
		holdMany(t, when, k, m, []uint64{i, i + 1})
		holdMany(t, when, k, m, []uint64{i / 2, i})
	}
	for _, i := range []uint64{most - 1, most, most + 1, 1 << 63, far} {
		holdLeaf(t, when, k, m, i)
		holdMany(t, when, k, m, []uint64{0, i})
	}
	holdMany(t, when, k, m, nil)
	holdMany(t, when, k, m, k.Pinned())
}

func holdNodes(t *testing.T, when string, k *keep.Keep, m *plain) {
	t.Helper()
	n := uint64(len(m.nodes))
	hold := func(p uint64) {
		want, wantE := m.node(p)
		if got, e := k.Node(p); got != want || e != wantE {
			t.Fatalf("%s: Node(%d) is %x, %v, want %x, %v", when, p, got, e, want, wantE)
		}
	}
	for p := range n + 2 {
		hold(p)
	}
	for _, p := range []uint64{n + 64, 1<<63 - 2, 1<<63 - 1, 1 << 63, far} {
		hold(p)
	}
}

// holdLeaf holds the pins and the proof of a leaf, and the proof of the prefix ahead of it.
func holdLeaf(t *testing.T, when string, k *keep.Keep, m *plain, i uint64) {
	t.Helper()
	if got := k.Pins(i); got != m.pins[i] {
		t.Fatalf("%s: Pins(%d) is %d, want %d", when, i, got, m.pins[i])
	}
	want, wantE := m.prove(i)
	if got, e := k.Prove(i); e != wantE || !sameProof(got, want) {
		t.Fatalf("%s: Prove(%d) is %v, %v, want %v, %v", when, i, got, e, want, wantE)
	}
	prefix, wantE := m.provePrefix(i)
	if got, e := k.ProvePrefix(i); e != wantE || !samePrefix(got, prefix) {
		t.Fatalf("%s: ProvePrefix(%d) is %v, %v, want %v, %v", when, i, got, e, prefix, wantE)
	}
}

func holdMany(t *testing.T, when string, k *keep.Keep, m *plain, index []uint64) {
	t.Helper()
	want, wantE := m.proveMany(index)
	if got, e := k.ProveMany(index); e != wantE || !sameMany(got, want) {
		t.Fatalf("%s: ProveMany(%v) is %v, %v, want %v, %v", when, index, got, e, want, wantE)
	}
}

func sameProof(a, b api.Proof) bool {
	return a.Size == b.Size && a.Index == b.Index && slices.Equal(a.Nodes, b.Nodes)
}

func samePrefix(a, b api.Prefix) bool {
	return a.From == b.From && a.Size == b.Size && slices.Equal(a.Nodes, b.Nodes)
}

func sameMany(a, b api.Many) bool {
	return a.Size == b.Size && slices.Equal(a.Index, b.Index) && slices.Equal(a.Nodes, b.Nodes)
}

// again is the keep that From makes of a keep's own answers.
func again(t *testing.T, when string, k *keep.Keep) *keep.Keep {
	t.Helper()
	places := k.Live()
	var nodes []api.Hash
	for _, p := range places {
		x, e := k.Node(p)
		if e != api.OK {
			t.Fatalf("%s: Node(%d), which lives, is %v", when, p, e)
		}
		nodes = append(nodes, x)
	}
	pins := map[uint64]int{}
	for _, i := range k.Pinned() {
		pins[i] = k.Pins(i)
	}
	x, e, at := keep.From(k.Width(), k.Log(), k.Size(), places, nodes, pins)
	if x == nil || e != api.OK || at != 0 {
		t.Fatalf("%s: From of its own is %v, %v, %d", when, x, e, at)
	}
	return x
}

// sets are all sets of the numbers below n.
func sets(n uint64) [][]uint64 {
	var l [][]uint64
	for set := range uint64(1) << n {
		var one []uint64
		for i := range n {
			if set>>i&1 == 1 {
				one = append(one, i)
			}
		}
		l = append(l, one)
	}
	return l
}

// behind is a list with some more in its memory than its length tells.
func behind[T any](l []T, more ...T) []T { return slices.Concat(l, more)[:len(l)] }

// turned is a hash with one bit turned.
func turned(x api.Hash, bit int) api.Hash {
	x[bit/8] ^= 1 << (bit % 8)
	return x
}

// dice are numbers that are drawn by a rule, the same in every run.
type dice uint64

func (d *dice) next(n uint64) uint64 {
	*d = *d*6364136223846793005 + 1442695040888963407
	return uint64(*d>>33) % n
}
