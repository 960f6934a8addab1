package proof_test

import (
	"math/big"
	"math/bits"
	"slices"
	"testing"

	"massif/api"
	"massif/mmr"
)

const (
	most = uint64(api.MaxLeaves)
	far  = ^uint64(0)
	some = uint64(300) // every size up to this one is tried
)

// h is a hash that is told by a number.
func h(n uint64) api.Hash {
	return api.Hash{0: byte(n), 1: byte(n >> 8), 2: byte(n >> 16), 9: byte(n >> 56), 10: byte(n >> 48), 30: 7, 31: ^byte(n)}
}

// hashes are n of them, from h(first) on.
func hashes(first uint64, n int) []api.Hash {
	var l []api.Hash
	for i := range uint64(n) {
		l = append(l, h(first+i))
	}
	return l
}

// at is a spot.
func at(h int, k uint64) api.Spot { return api.Spot{Height: uint8(h), Index: k} }

// has tells whether a forest of n leaves has the spot (h, k).
func has(h int, k, n uint64) bool { return h <= 62 && k < n>>h }

// place is where a spot stands: behind all that was made ahead of its last leaf, and as many nodes up as it is high.
func place(s api.Spot) uint64 {
	last := (s.Index+1)<<s.Height - 1
	return 2*last - uint64(bits.OnesCount64(last)) + uint64(s.Height)
}

// peaks are the spots without a parent, the highest first.
func peaks(n uint64) []api.Spot {
	var l []api.Spot
	for h := 62; h >= 0; h-- {
		if k := n>>h - 1; n>>h > 0 && !has(h+1, k/2, n) {
			l = append(l, at(h, k))
		}
	}
	return l
}

// spotsOf are the spots of a leaf's proof: siblings as long as there is a parent, and the other peaks.
func spotsOf(i, n uint64) []api.Spot {
	var l []api.Spot
	high := 0
	for ; has(high+1, i>>high/2, n); high++ {
		l = append(l, at(high, i>>high^1))
	}
	for _, s := range peaks(n) {
		if s != at(high, i>>high) {
			l = append(l, s)
		}
	}
	return l
}

// prefixSpotsOf are the spots of a prefix proof: the peaks of m leaves, and from there on always the highest that fits.
func prefixSpotsOf(m, n uint64) []api.Spot {
	l := peaks(m)
	for m < n {
		h := 0
		for m%(2<<h) == 0 && 2<<h <= n-m {
			h++
		}
		l = append(l, at(h, m>>h))
		m += 1 << h
	}
	return l
}

// placesOf are the places of spots.
func placesOf(l []api.Spot) []uint64 {
	var places []uint64
	for _, s := range l {
		places = append(places, place(s))
	}
	return places
}

// edges are numbers of leaves: powers of two up to most, their neighbours, and some between.
func edges() []uint64 {
	l := []uint64{0, 5, 11, 300, 0x0123456789abcdef, 0x2aaaaaaaaaaaaaaa, 0x1555555555555555, 0x3ffffffffffffff5}
	for b := range 63 {
		x := uint64(1) << b
		l = append(l, x-1, x, x+1, most-x)
	}
	l = slices.DeleteFunc(l, func(x uint64) bool { return x > most })
	slices.Sort(l)
	return slices.Compact(l)
}

// beyond are numbers that are no sizes.
func beyond() []uint64 {
	return []uint64{most + 1, most + 2, 2*most - 1, 2 * most, 1<<63 - 1, 1 << 63, 1<<63 + 1, 1<<63 + most, far - 1, far}
}

// row is the nodes of a forest of a height, hash by hash.
type row []api.Hash

// rows are the nodes of the forest over these leaves, by their heights.
func rows(leaves []api.Hash, node func(l, r api.Hash) api.Hash) []row {
	all := []row{leaves}
	for len(all[len(all)-1]) > 1 {
		var next row
		low := all[len(all)-1]
		for k := 0; 2*k+1 < len(low); k++ {
			next = append(next, node(low[2*k], low[2*k+1]))
		}
		all = append(all, next)
	}
	return all
}

// pick is the hashes of these spots.
func pick(all []row, spots []api.Spot) []api.Hash {
	var l []api.Hash
	for _, s := range spots {
		l = append(l, all[s.Height][s.Index])
	}
	return l
}

// grown is a tree with these leaves.
func grown(t *testing.T, w int, leaves []api.Hash) *mmr.Tree {
	t.Helper()
	x, e := mmr.New(w, 4)
	if e != api.OK {
		t.Fatalf("mmr.New(%d, 4) is %v", w, e)
	}
	for _, l := range leaves {
		x.Append(l)
	}
	return x
}

// sameProof tells whether two proofs are one; nil and empty lists are.
func sameProof(a, b api.Proof) bool {
	return a.Size == b.Size && a.Index == b.Index && slices.Equal(a.Nodes, b.Nodes)
}

func samePrefix(a, b api.Prefix) bool {
	return a.From == b.From && a.Size == b.Size && slices.Equal(a.Nodes, b.Nodes)
}

// groups is x as chapter 1 writes it, by dividing.
func groups(x uint64) []byte {
	var b []byte
	for ; x >= 128; x /= 128 {
		b = append(b, byte(x%128)+128)
	}
	return append(b, byte(x))
}

// bytesOf is a proof in bytes, as 7.4 says, whatever its numbers are.
func bytesOf(kind byte, x, y uint64, nodes []api.Hash) []byte {
	b := slices.Concat([]byte{kind}, groups(x), groups(y))
	for _, n := range nodes {
		for _, c := range n {
			b = append(b, c)
		}
	}
	return b
}

// take reads a number by the words of 1.7, with exact numbers, and tells what stands behind it.
func take(b []byte) (uint64, []byte, api.Errno) {
	front := b[:min(10, len(b))]
	last := slices.IndexFunc(front, func(c byte) bool { return c < 128 })
	switch {
	case last < 0 && len(b) < 10:
		return 0, nil, api.ErrCut
	case last < 0:
		return 0, nil, api.ErrRange
	}
	sum := new(big.Int)
	for i := last; i >= 0; i-- {
		sum.Mul(sum, big.NewInt(128))
		sum.Add(sum, big.NewInt(int64(b[i]%128)))
	}
	switch {
	case !sum.IsUint64():
		return 0, nil, api.ErrRange
	case last > 0 && b[last] == 0:
		return 0, nil, api.ErrForm
	}
	return sum.Uint64(), b[last+1:], api.OK
}

// ended reads so many nodes by the words of 7.5.
func ended(b []byte, count int) ([]api.Hash, api.Errno) {
	switch {
	case len(b) < 32*count:
		return nil, api.ErrCut
	case len(b) > 32*count:
		return nil, api.ErrTail
	}
	var l []api.Hash
	for ; len(b) > 0; b = b[32:] {
		l = append(l, api.Hash(b[:32]))
	}
	return l, api.OK
}

// read is what Decode is to tell, by the words of 7.5.
func read(b []byte) (api.Proof, api.Errno) {
	if len(b) == 0 {
		return api.Proof{}, api.ErrCut
	}
	if b[0] != 77 {
		return api.Proof{}, api.ErrKind
	}
	n, b, e := take(b[1:])
	if e != api.OK {
		return api.Proof{}, e
	}
	if n > most {
		return api.Proof{}, api.ErrSize
	}
	i, b, e := take(b)
	if e != api.OK {
		return api.Proof{}, e
	}
	if i >= n {
		return api.Proof{}, api.ErrIndex
	}
	nodes, e := ended(b, len(spotsOf(i, n)))
	if e != api.OK {
		return api.Proof{}, e
	}
	return api.Proof{Size: n, Index: i, Nodes: nodes}, api.OK
}

// readPrefix is what DecodePrefix is to tell.
func readPrefix(b []byte) (api.Prefix, api.Errno) {
	if len(b) == 0 {
		return api.Prefix{}, api.ErrCut
	}
	if b[0] != 80 {
		return api.Prefix{}, api.ErrKind
	}
	m, b, e := take(b[1:])
	if e != api.OK {
		return api.Prefix{}, e
	}
	n, b, e := take(b)
	if e != api.OK {
		return api.Prefix{}, e
	}
	if n > most || m > n {
		return api.Prefix{}, api.ErrSize
	}
	nodes, e := ended(b, len(prefixSpotsOf(m, n)))
	if e != api.OK {
		return api.Prefix{}, e
	}
	return api.Prefix{From: m, Size: n, Nodes: nodes}, api.OK
}

// dice are numbers that are drawn by a rule, the same in every run.
type dice uint64

func (d *dice) next(n uint64) uint64 {
	*d = *d*6364136223846793005 + 1442695040888963407
	return uint64(*d>>33) % n
}
