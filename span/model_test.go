package span_test

import (
	"cmp"
	"math/big"
	"math/bits"
	"slices"
	"testing"

	"massif/api"
	"massif/hash"
	"massif/mmr"
	"massif/span"
)

const (
	most = uint64(api.MaxLeaves)
	far  = ^uint64(0)
)

// widths are some, of which the outer ones count as 1 and as 32.
func widths() []int { return []int{-7, 0, 1, 2, 5, 31, 32, 33, 1 << 40} }

// h is a hash that is told by a number; it has bytes behind every width but the greatest.
func h(n uint64) api.Hash {
	return api.Hash{0: byte(n), 1: byte(n >> 8), 2: byte(n >> 16), 9: byte(n >> 56), 10: byte(n >> 48), 30: 7, 31: ^byte(n)}
}

// hashes are n of them, from h(first) on.
func hashes(first uint64, n int) []api.Hash {
	var l []api.Hash
	for i := range uint64(n) {
		l = append(l, h(first+i))
	}
	return l
}

// reach is a span of the leaves of n.
type reach struct{ from, to, n uint64 }

// long is how many leaves a span has.
func (r reach) long() int { return int(r.to - r.from) }

// of are the leaves of a span, of all of them.
func (r reach) of(all []api.Hash) []api.Hash { return all[r.from:r.to] }

// index are the indices of the leaves of a span.
func (r reach) index() []uint64 {
	var l []uint64
	for i := r.from; i < r.to; i++ {
		l = append(l, i)
	}
	return l
}

// spans are all spans of n leaves.
func spans(n uint64) []reach {
	var l []reach
	for to := range n + 1 {
		for from := range to + 1 {
			l = append(l, reach{from, to, n})
		}
	}
	return l
}

// spansUpTo are all spans of all sizes below n.
func spansUpTo(n uint64) []reach {
	var l []reach
	for k := range n {
		l = append(l, spans(k)...)
	}
	return l
}

// at is a spot.
func at(h int, k uint64) api.Spot { return api.Spot{Height: uint8(h), Index: k} }

// parent is the spot over another one.
func parent(s api.Spot) api.Spot { return api.Spot{Height: s.Height + 1, Index: s.Index / 2} }

// has tells whether a forest of n leaves has a spot.
func has(s api.Spot, n uint64) bool { return s.Height <= 62 && s.Index < n>>s.Height }

// over tells whether a spot stands over one of the leaves of a span: over the first of them, or over one behind that.
func over(s api.Spot, r reach) bool {
	return r.from < r.to && s.Index >= r.from>>s.Height && s.Index <= (r.to-1)>>s.Height
}

// made are the spots of a forest of n leaves, in the order in which they are made: at the place 0, at 1, ..
func made(n uint64) []api.Spot {
	var l []api.Spot
	for i := range n {
		s := at(0, i)
		l = append(l, s)
		for s.Index%2 == 1 {
			s = parent(s)
			l = append(l, s)
		}
	}
	return l
}

// needs is where the nodes stand that a span needs, by the words of 10.1, of all nodes of a forest one by one.
func needs(r reach) []uint64 {
	var l []uint64
	for p, s := range made(r.n) {
		if over(s, r) {
			continue
		}
		if up := parent(s); !has(up, r.n) || over(up, r) {
			l = append(l, uint64(p))
		}
	}
	return l
}

// place is where a spot stands: behind all that was made ahead of its last leaf, and as many nodes up as it is high.
func place(s api.Spot) uint64 {
	last := (s.Index+1)<<s.Height - 1
	return 2*last - uint64(bits.OnesCount64(last)) + uint64(s.Height)
}

// peakSpots are the spots of the peaks of n leaves: one for each set bit, the highest first.
func peakSpots(n uint64) []api.Spot {
	var l []api.Spot
	for h := 62; h >= 0; h-- {
		if n>>h&1 == 1 {
			l = append(l, at(h, n>>h-1))
		}
	}
	return l
}

// needSpots are the spots that a span needs, of a forest of any size, by their places: those that are peaks, and siblings
// on the ways up from its first and from its last leaf. (One that stands beside the way of a leaf between, and over no leaf
// of the span, would stand over one ahead of the first or behind the last, and so beside the way of that one.)
func needSpots(r reach) []api.Spot {
	l := peakSpots(r.n)
	for _, i := range []uint64{r.from, r.to - 1} {
		for s := at(0, i); r.from < r.to && has(parent(s), r.n); s = parent(s) {
			l = append(l, api.Spot{Height: s.Height, Index: s.Index ^ 1})
		}
	}
	l = slices.DeleteFunc(l, func(s api.Spot) bool { return over(s, r) })
	slices.SortFunc(l, func(a, b api.Spot) int { return cmp.Compare(place(a), place(b)) })
	return slices.Compact(l)
}

// placesOf are the places that a span needs, of a forest of any size.
func placesOf(r reach) []uint64 {
	var places []uint64
	for _, s := range needSpots(r) {
		places = append(places, place(s))
	}
	return places
}

// wrongSpan is the error of a span, by the words of 20.1.
func wrongSpan(r reach) api.Errno {
	switch {
	case r.n > most:
		return api.ErrSize
	case r.from > r.to, r.to > r.n:
		return api.ErrIndex
	}
	return api.OK
}

// great are sizes up to MaxLeaves: powers of two, their neighbours, and some between.
func great() []uint64 {
	l := []uint64{300, 0x0123456789abcdef, 0x2aaaaaaaaaaaaaaa, 0x1555555555555555, 0x3ffffffffffffff5}
	for b := 7; b < 62; b += 5 {
		l = append(l, 1<<b-1, 1<<b, 1<<b+1, most-1<<b)
	}
	return append(l, most-2, most-1, most)
}

// beyond are numbers that are no sizes.
func beyond() []uint64 {
	return []uint64{most + 1, most + 2, 2*most - 1, 2 * most, 1<<63 - 1, 1 << 63, 1<<63 + 1, far - 1, far}
}

// edgesOf are ends of spans of n leaves: the outer ones, the middle, and where peaks begin, or where some of many do.
func edgesOf(n uint64) []uint64 {
	l := []uint64{0, 1, n / 3, n / 2, n/2 + 1, n - 2, n - 1, n}
	peaks := peakSpots(n)
	for k, s := range peaks {
		if k%(1+len(peaks)/16) == 0 {
			l = append(l, s.Index<<s.Height, (s.Index<<s.Height)-1)
		}
	}
	slices.Sort(l)
	return slices.Compact(slices.DeleteFunc(l, func(x uint64) bool { return x > n }))
}

// someOf are spans of the leaves of a great n, short ones and such as no list could hold.
func someOf(n uint64) []reach {
	var l []reach
	for _, to := range edgesOf(n) {
		for _, from := range edgesOf(n) {
			if from <= to {
				l = append(l, reach{from, to, n})
			}
		}
	}
	return l
}

// shortOf are those of them with so few leaves that they can be told.
func shortOf(n uint64) []reach {
	return slices.DeleteFunc(someOf(n), func(r reach) bool { return r.to-r.from > 9 })
}

// wrongSpans are spans that are none, of sizes that are and of sizes that are none.
func wrongSpans() []reach {
	var l []reach
	for _, n := range append([]uint64{0, 1, 2, 7, 8, 1 << 32, most - 1, most}, beyond()...) {
		ends := []uint64{0, 1, 2, 3, 7, n - 1, n, n + 1, n + 2, most, most + 1, 1 << 63, far - 1, far}
		for _, to := range ends {
			for _, from := range ends {
				if r := (reach{from, to, n}); wrongSpan(r) != api.OK {
					l = append(l, r)
				}
			}
		}
	}
	return l
}

// known are the hashes of spots: of leaves and of what they need.
type known map[api.Spot]api.Hash

// reachOf is the span of a proof.
func reachOf(p api.Reach) reach { return reach{p.From, p.To, p.Size} }

// knownOf are those of leaves and of a proof with as many nodes as they need.
func knownOf(leaves []api.Hash, p api.Reach) known {
	k := known{}
	for j, x := range leaves {
		k[at(0, p.From+uint64(j))] = x
	}
	for j, s := range needSpots(reachOf(p)) {
		k[s] = p.Nodes[j]
	}
	return k
}

// hash is that of a spot, by the words of 20.4; heard hears of each text that is hashed on the way.
func (k known) hash(w int, s api.Spot, heard func(text []byte)) api.Hash {
	if x, ok := k[s]; ok {
		return x
	}
	low := int(s.Height) - 1
	l := k.hash(w, at(low, 2*s.Index), heard)
	r := k.hash(w, at(low, 2*s.Index+1), heard)
	heard(hash.NodeText(l, r))
	return hash.Node(w, l, r)
}

// peaks are the hashes of the peaks of n leaves.
func (k known) peaks(w int, n uint64, heard func(text []byte)) []api.Hash {
	var l []api.Hash
	for _, s := range peakSpots(n) {
		l = append(l, k.hash(w, s, heard))
	}
	return l
}

// nobody hears nothing.
func nobody(text []byte) {}

// peaksOf are the peaks that follow from leaves and a proof.
func peaksOf(w int, leaves []api.Hash, p api.Reach) []api.Hash {
	return knownOf(leaves, p).peaks(w, p.Size, nobody)
}

// bagOf is the root over peaks, by the words of 6.1.
func bagOf(w int, n uint64, peaks []api.Hash, heard func(text []byte)) api.Hash {
	acc := folded(w, peaks, heard)
	heard(hash.RootText(n, acc))
	return hash.Root(w, n, acc)
}

func folded(w int, peaks []api.Hash, heard func(text []byte)) api.Hash {
	switch len(peaks) {
	case 0:
		return api.Hash{}
	case 1:
		return peaks[0]
	}
	acc := folded(w, peaks[1:], heard)
	heard(hash.FoldText(peaks[0], acc))
	return hash.Fold(w, peaks[0], acc)
}

// rootOf is the root that follows from leaves and a proof.
func rootOf(w int, leaves []api.Hash, p api.Reach) api.Hash {
	return bagOf(w, p.Size, peaksOf(w, leaves, p), nobody)
}

// textsOf are all texts that are hashed on the way from leaves and a proof up to the root.
func textsOf(w int, leaves []api.Hash, p api.Reach) [][]byte {
	var l [][]byte
	heard := func(text []byte) { l = append(l, text) }
	bagOf(w, p.Size, knownOf(leaves, p).peaks(w, p.Size, heard), heard)
	return l
}

// withNodes is a proof of a span with these nodes.
func withNodes(r reach, nodes []api.Hash) api.Reach {
	return api.Reach{Size: r.n, From: r.from, To: r.to, Nodes: nodes}
}

// anyProof is a proof of a span with any nodes, told by a number.
func anyProof(r reach, k uint64) api.Reach { return withNodes(r, hashes(k, len(needSpots(r)))) }

// grown is a tree with these leaves.
func grown(t *testing.T, w int, leaves []api.Hash) *mmr.Tree {
	t.Helper()
	x, e := mmr.New(w, 4)
	if e != api.OK {
		t.Fatalf("mmr.New(%d, 4) is %v", w, e)
	}
	for _, l := range leaves {
		x.Append(l)
	}
	return x
}

// mustMake is the proof of a span from a tree.
func mustMake(t *testing.T, tree *mmr.Tree, r reach) api.Reach {
	t.Helper()
	p, e := span.Make(tree, r.from, r.to, r.n)
	if e != api.OK {
		t.Fatalf("Make(%v) is %v", r, e)
	}
	return p
}

// same tells whether two proofs are one; nil and empty lists are.
func same(a, b api.Reach) bool {
	return reachOf(a) == reachOf(b) && slices.Equal(a.Nodes, b.Nodes)
}

// groups is x as chapter 1 writes it, by dividing.
func groups(x uint64) []byte {
	var b []byte
	for ; x >= 128; x /= 128 {
		b = append(b, byte(x%128)+128)
	}
	return append(b, byte(x))
}

// plain are the bytes of hashes.
func plain(l []api.Hash) []byte {
	var b []byte
	for _, x := range l {
		b = append(b, x[:]...)
	}
	return b
}

// bytesOf is a proof in bytes, by the words of 20.3.
func bytesOf(p api.Reach) []byte {
	return slices.Concat([]byte{83}, groups(p.Size), groups(p.From), groups(p.To-p.From), plain(p.Nodes))
}

// take reads a number by the words of 1.7, with exact numbers, and tells what stands behind it.
func take(b []byte) (uint64, []byte, api.Errno) {
	front := b[:min(10, len(b))]
	last := slices.IndexFunc(front, func(c byte) bool { return c < 128 })
	switch {
	case last < 0 && len(b) < 10:
		return 0, nil, api.ErrCut
	case last < 0:
		return 0, nil, api.ErrRange
	}
	sum := new(big.Int)
	for i := last; i >= 0; i-- {
		sum.Mul(sum, big.NewInt(128))
		sum.Add(sum, big.NewInt(int64(b[i]%128)))
	}
	switch {
	case !sum.IsUint64():
		return 0, nil, api.ErrRange
	case last > 0 && b[last] == 0:
		return 0, nil, api.ErrForm
	}
	return sum.Uint64(), b[last+1:], api.OK
}

// read is what Decode is to tell, by the words of 20.3.
func read(b []byte) (api.Reach, api.Errno) {
	if len(b) == 0 {
		return api.Reach{}, api.ErrCut
	}
	if b[0] != 83 {
		return api.Reach{}, api.ErrKind
	}
	r, b, e := readSpan(b[1:])
	if e != api.OK {
		return api.Reach{}, e
	}
	count := len(needSpots(r))
	switch {
	case len(b) < 32*count:
		return api.Reach{}, api.ErrCut
	case len(b) > 32*count:
		return api.Reach{}, api.ErrTail
	}
	p := withNodes(r, nil)
	for ; len(b) > 0; b = b[32:] {
		p.Nodes = append(p.Nodes, api.Hash(b[:32]))
	}
	return p, api.OK
}

// readSpan reads the three numbers, with exact ones, and tells what stands behind them.
func readSpan(b []byte) (reach, []byte, api.Errno) {
	n, b, e := take(b)
	if e != api.OK {
		return reach{}, nil, e
	}
	if n > most {
		return reach{}, nil, api.ErrSize
	}
	from, b, e := take(b)
	if e != api.OK {
		return reach{}, nil, e
	}
	if from > n {
		return reach{}, nil, api.ErrIndex
	}
	above, b, e := take(b)
	if e != api.OK {
		return reach{}, nil, e
	}
	to := new(big.Int).SetUint64(from)
	to.Add(to, new(big.Int).SetUint64(above))
	if to.Cmp(new(big.Int).SetUint64(n)) > 0 {
		return reach{}, nil, api.ErrIndex
	}
	return reach{from, to.Uint64(), n}, b, api.OK
}

// verifyOf is what Verify is to tell, by the words of 20.5.
func verifyOf(c claim, b []byte) api.Errno {
	p, e := read(b)
	switch {
	case e != api.OK:
		return e
	case p.Size != c.n:
		return api.ErrSize
	case p.From != c.from || p.To != c.to:
		return api.ErrIndex
	case uint64(len(c.leaves)) != c.to-c.from:
		return api.ErrCount
	case rootOf(c.w, c.leaves, p) != c.root:
		return api.ErrRoot
	}
	return api.OK
}

// raw is a proof in bytes.
func raw(t *testing.T, p api.Reach) []byte {
	t.Helper()
	b, e := span.Encode(p)
	if e != api.OK {
		t.Fatalf("Encode{%v, %d nodes} is %v", reachOf(p), len(p.Nodes), e)
	}
	return b
}

// turned is a hash with one bit turned.
func turned(x api.Hash, bit int) api.Hash {
	x[bit/8] ^= 1 << (bit % 8)
	return x
}

// with is a list in which one is another.
func with(l []api.Hash, j int, x api.Hash) []api.Hash {
	l = slices.Clone(l)
	l[j] = x
	return l
}

// behind is a list with some more in its memory than its length tells.
func behind[T any](l []T, more ...T) []T { return slices.Concat(l, more)[:len(l)] }

// dice are numbers that are drawn by a rule, the same in every run.
type dice uint64

func (d *dice) next(n uint64) uint64 {
	*d = *d*6364136223846793005 + 1442695040888963407
	return uint64(*d>>33) % n
}
