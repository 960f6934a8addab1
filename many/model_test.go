package many_test

import (
	"cmp"
	"math/big"
	"math/bits"
	"slices"
	"testing"

	"massif/api"
	"massif/hash"
	"massif/many"
	"massif/mmr"
)

const (
	most = uint64(api.MaxLeaves)
	far  = ^uint64(0)
)

// widths are some, of which the outer ones count as 1 and as 32.
func widths() []int { return []int{-7, 0, 1, 2, 5, 31, 32, 33, 1 << 40} }

// h is a hash that is told by a number; it has bytes behind every width but the greatest.
func h(n uint64) api.Hash {
	return api.Hash{0: byte(n), 1: byte(n >> 8), 2: byte(n >> 16), 9: byte(n >> 56), 10: byte(n >> 48), 30: 7, 31: ^byte(n)}
}

// hashes are n of them, from h(first) on.
func hashes(first uint64, n int) []api.Hash {
	var l []api.Hash
	for i := range uint64(n) {
		l = append(l, h(first+i))
	}
	return l
}

// at is a spot.
func at(h int, k uint64) api.Spot { return api.Spot{Height: uint8(h), Index: k} }

// parent is the spot over another one.
func parent(s api.Spot) api.Spot { return api.Spot{Height: s.Height + 1, Index: s.Index / 2} }

// has tells whether a forest of n leaves has a spot.
func has(s api.Spot, n uint64) bool { return s.Height <= 62 && s.Index < n>>s.Height }

// over tells whether a spot stands over one of these leaves.
func over(s api.Spot, index []uint64) bool {
	return slices.ContainsFunc(index, func(i uint64) bool { return i>>s.Height == s.Index })
}

// made are the spots of a forest of n leaves, in the order in which they are made: at the place 0, at 1, ..
func made(n uint64) []api.Spot {
	var l []api.Spot
	for i := range n {
		s := at(0, i)
		l = append(l, s)
		for s.Index%2 == 1 {
			s = parent(s)
			l = append(l, s)
		}
	}
	return l
}

// needs is where the nodes stand that leaves need, by the words of 10.1, of all nodes of a forest one by one.
func needs(index []uint64, n uint64) []uint64 {
	var l []uint64
	for p, s := range made(n) {
		if over(s, index) {
			continue
		}
		if up := parent(s); !has(up, n) || over(up, index) {
			l = append(l, uint64(p))
		}
	}
	return l
}

// place is where a spot stands: behind all that was made ahead of its last leaf, and as many nodes up as it is high.
func place(s api.Spot) uint64 {
	last := (s.Index+1)<<s.Height - 1
	return 2*last - uint64(bits.OnesCount64(last)) + uint64(s.Height)
}

// peakSpots are the spots of the peaks of n leaves: one for each set bit, the highest first.
func peakSpots(n uint64) []api.Spot {
	var l []api.Spot
	for h := 62; h >= 0; h-- {
		if n>>h&1 == 1 {
			l = append(l, at(h, n>>h-1))
		}
	}
	return l
}

// needSpots are the spots that leaves need, of a forest of any size, by their places: a node that is no peak, and whose
// parent stands over a leaf, is a sibling on the way of that leaf up.
func needSpots(index []uint64, n uint64) []api.Spot {
	l := peakSpots(n)
	for _, i := range index {
		for s := at(0, i); has(parent(s), n); s = parent(s) {
			l = append(l, api.Spot{Height: s.Height, Index: s.Index ^ 1})
		}
	}
	l = slices.DeleteFunc(l, func(s api.Spot) bool { return over(s, index) })
	slices.SortFunc(l, func(a, b api.Spot) int { return cmp.Compare(place(a), place(b)) })
	return slices.Compact(l)
}

// placesOf are the places of spots.
func placesOf(l []api.Spot) []uint64 {
	var places []uint64
	for _, s := range l {
		places = append(places, place(s))
	}
	return places
}

// wrongIndex is the error of indices, by the words of 10.2.
func wrongIndex(index []uint64, n uint64) api.Errno {
	if n > most {
		return api.ErrSize
	}
	for k := range index {
		switch {
		case k > 0 && index[k] <= index[k-1]:
			return api.ErrOrder
		case index[k] >= n:
			return api.ErrIndex
		}
	}
	return api.OK
}

// sets are all sets of the leaves of n.
func sets(n uint64) [][]uint64 {
	l := [][]uint64{nil}
	for set := uint64(1); set < 1<<n; set++ {
		var index []uint64
		for i := range n {
			if set>>i&1 == 1 {
				index = append(index, i)
			}
		}
		l = append(l, index)
	}
	return l
}

// from are the leaves from a up to b, without b.
func from(a, b uint64) []uint64 {
	var l []uint64
	for ; a < b; a++ {
		l = append(l, a)
	}
	return l
}

// great are sizes up to MaxLeaves: powers of two, their neighbours, and some between.
func great() []uint64 {
	l := []uint64{300, 0x0123456789abcdef, 0x2aaaaaaaaaaaaaaa, 0x1555555555555555, 0x3ffffffffffffff5}
	for b := 7; b < 62; b += 5 {
		l = append(l, 1<<b-1, 1<<b, 1<<b+1, most-1<<b)
	}
	return append(l, most-2, most-1, most)
}

// beyond are numbers that are no sizes.
func beyond() []uint64 {
	return []uint64{most + 1, most + 2, 2*most - 1, 2 * most, 1<<63 - 1, 1 << 63, 1<<63 + 1, far - 1, far}
}

// edgesOf are leaves of n: the ends, the middle, and where peaks begin.
func edgesOf(n uint64) []uint64 {
	l := []uint64{0, 1, n / 3, n / 2, n - 2, n - 1}
	for _, s := range peakSpots(n) {
		l = append(l, s.Index<<s.Height, (s.Index<<s.Height)-1)
	}
	return rising(slices.DeleteFunc(l, func(x uint64) bool { return x >= n }))
}

// rising are numbers in their order, each once.
func rising(l []uint64) []uint64 {
	slices.Sort(l)
	return slices.Compact(l)
}

// someOf are lists of the leaves of a great n: none, the ends, one, neighbours, those at edges, any.
func someOf(n uint64, d *dice) [][]uint64 {
	l := [][]uint64{nil, {0}, {n - 1}, {0, n - 1}, from(0, 5), from(n-5, n), from(n/2-3, n/2+4), edgesOf(n)}
	for range 4 {
		var index []uint64
		for range 1 + d.next(9) {
			index = append(index, d.next(1<<31)*d.next(1<<31)%n)
		}
		l = append(l, rising(index))
	}
	return l
}

// known are the hashes of spots: of leaves and of what they need.
type known map[api.Spot]api.Hash

// knownOf are those of leaves and of a proof with as many nodes as they need.
func knownOf(leaves []api.Hash, p api.Many) known {
	k := known{}
	for j, i := range p.Index {
		k[at(0, i)] = leaves[j]
	}
	for j, s := range needSpots(p.Index, p.Size) {
		k[s] = p.Nodes[j]
	}
	return k
}

// hash is that of a spot, by the words of 10.5.
func (k known) hash(w int, s api.Spot) api.Hash {
	if x, ok := k[s]; ok {
		return x
	}
	low := int(s.Height) - 1
	return hash.Node(w, k.hash(w, at(low, 2*s.Index)), k.hash(w, at(low, 2*s.Index+1)))
}

// peaks are the hashes of the peaks of n leaves.
func (k known) peaks(w int, n uint64) []api.Hash {
	var l []api.Hash
	for _, s := range peakSpots(n) {
		l = append(l, k.hash(w, s))
	}
	return l
}

// peaksOf are the peaks that follow from leaves and a proof.
func peaksOf(w int, leaves []api.Hash, p api.Many) []api.Hash {
	return knownOf(leaves, p).peaks(w, p.Size)
}

// bagOf is the root over peaks, by the words of 6.1.
func bagOf(w int, n uint64, peaks []api.Hash) api.Hash { return hash.Root(w, n, folded(w, peaks)) }

func folded(w int, peaks []api.Hash) api.Hash {
	switch len(peaks) {
	case 0:
		return api.Hash{}
	case 1:
		return peaks[0]
	}
	return hash.Fold(w, peaks[0], folded(w, peaks[1:]))
}

// rootOf is the root that follows from leaves and a proof.
func rootOf(w int, leaves []api.Hash, p api.Many) api.Hash {
	return bagOf(w, p.Size, peaksOf(w, leaves, p))
}

// anyProof is a proof of these leaves with any nodes, told by a number.
func anyProof(index []uint64, n, k uint64) api.Many {
	return api.Many{Size: n, Index: index, Nodes: hashes(k, len(needSpots(index, n)))}
}

// grown is a tree with these leaves.
func grown(t *testing.T, w int, leaves []api.Hash) *mmr.Tree {
	t.Helper()
	x, e := mmr.New(w, 4)
	if e != api.OK {
		t.Fatalf("mmr.New(%d, 4) is %v", w, e)
	}
	for _, l := range leaves {
		x.Append(l)
	}
	return x
}

// pick are the leaves of these indices.
func pick(leaves []api.Hash, index []uint64) []api.Hash {
	var l []api.Hash
	for _, i := range index {
		l = append(l, leaves[i])
	}
	return l
}

// same tells whether two proofs are one; nil and empty lists are.
func same(a, b api.Many) bool {
	return a.Size == b.Size && slices.Equal(a.Index, b.Index) && slices.Equal(a.Nodes, b.Nodes)
}

// groups is x as chapter 1 writes it, by dividing.
func groups(x uint64) []byte {
	var b []byte
	for ; x >= 128; x /= 128 {
		b = append(b, byte(x%128)+128)
	}
	return append(b, byte(x))
}

// plain are the bytes of hashes.
func plain(l []api.Hash) []byte {
	var b []byte
	for _, x := range l {
		b = append(b, x[:]...)
	}
	return b
}

// bytesOf is a proof in bytes, by the words of 10.4; the indices must rise.
func bytesOf(p api.Many) []byte {
	b := slices.Concat([]byte{78}, groups(p.Size), groups(uint64(len(p.Index))))
	for k, i := range p.Index {
		if k == 0 {
			b = append(b, groups(i)...)
		} else {
			b = append(b, groups(i-p.Index[k-1]-1)...)
		}
	}
	return append(b, plain(p.Nodes)...)
}

// take reads a number by the words of 1.7, with exact numbers, and tells what stands behind it.
func take(b []byte) (uint64, []byte, api.Errno) {
	front := b[:min(10, len(b))]
	last := slices.IndexFunc(front, func(c byte) bool { return c < 128 })
	switch {
	case last < 0 && len(b) < 10:
		return 0, nil, api.ErrCut
	case last < 0:
		return 0, nil, api.ErrRange
	}
	sum := new(big.Int)
	for i := last; i >= 0; i-- {
		sum.Mul(sum, big.NewInt(128))
		sum.Add(sum, big.NewInt(int64(b[i]%128)))
	}
	switch {
	case !sum.IsUint64():
		return 0, nil, api.ErrRange
	case last > 0 && b[last] == 0:
		return 0, nil, api.ErrForm
	}
	return sum.Uint64(), b[last+1:], api.OK
}

// read is what Decode is to tell, by the words of 10.4.
func read(b []byte) (api.Many, api.Errno) {
	if len(b) == 0 {
		return api.Many{}, api.ErrCut
	}
	if b[0] != 78 {
		return api.Many{}, api.ErrKind
	}
	n, b, e := take(b[1:])
	if e != api.OK {
		return api.Many{}, e
	}
	if n > most {
		return api.Many{}, api.ErrSize
	}
	index, b, e := readIndex(b, n)
	if e != api.OK {
		return api.Many{}, e
	}
	p := api.Many{Size: n, Index: index}
	count := len(needSpots(index, n))
	switch {
	case len(b) < 32*count:
		return api.Many{}, api.ErrCut
	case len(b) > 32*count:
		return api.Many{}, api.ErrTail
	}
	for ; len(b) > 0; b = b[32:] {
		p.Nodes = append(p.Nodes, api.Hash(b[:32]))
	}
	return p, api.OK
}

// readIndex reads the indices, with exact numbers, and tells what stands behind them.
func readIndex(b []byte, n uint64) ([]uint64, []byte, api.Errno) {
	count, b, e := take(b)
	if e != api.OK {
		return nil, nil, e
	}
	var index []uint64
	next := new(big.Int)
	for uint64(len(index)) < count {
		x, behind, e := take(b)
		if e != api.OK {
			return nil, nil, e
		}
		next.Add(next, new(big.Int).SetUint64(x))
		if next.Cmp(new(big.Int).SetUint64(n)) >= 0 {
			return nil, nil, api.ErrIndex
		}
		index, b = append(index, next.Uint64()), behind
		next.Add(next, big.NewInt(1))
	}
	return index, b, api.OK
}

// verifyOf is what Verify is to tell, by the words of 10.6.
func verifyOf(w int, root api.Hash, n uint64, index []uint64, leaves []api.Hash, b []byte) api.Errno {
	p, e := read(b)
	switch {
	case e != api.OK:
		return e
	case p.Size != n:
		return api.ErrSize
	case !slices.Equal(p.Index, index):
		return api.ErrIndex
	case len(leaves) != len(index):
		return api.ErrCount
	case rootOf(w, leaves, p) != root:
		return api.ErrRoot
	}
	return api.OK
}

// raw is a proof in bytes.
func raw(t *testing.T, p api.Many) []byte {
	t.Helper()
	b, e := many.Encode(p)
	if e != api.OK {
		t.Fatalf("Encode{%d, %d, %d nodes} is %v", p.Size, p.Index, len(p.Nodes), e)
	}
	return b
}

// turned is a hash with one bit turned.
func turned(x api.Hash, bit int) api.Hash {
	x[bit/8] ^= 1 << (bit % 8)
	return x
}

// behind is a list with some more in its memory than its length tells.
func behind[T any](l []T, more ...T) []T { return slices.Concat(l, more)[:len(l)] }

// dice are numbers that are drawn by a rule, the same in every run.
type dice uint64

func (d *dice) next(n uint64) uint64 {
	*d = *d*6364136223846793005 + 1442695040888963407
	return uint64(*d>>33) % n
}
