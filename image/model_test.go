package image_test

import (
	"bytes"
	"fmt"
	"math/big"
	"slices"
	"testing"

	"massif/api"
	"massif/hash"
	"massif/image"
	"massif/keep"
	"massif/pos"
	"massif/proof"
)

const (
	most = uint64(api.MaxLeaves)
	far  = ^uint64(0)
	full = 1 << 30 // pins of a leaf
)

// leaf is the n-th of hashes that are all unlike one another; it has bytes behind every width but the greatest.
func leaf(n uint64) api.Hash {
	x := api.Hash{29: 1, 30: 9, 31: byte(n * 7)}
	for i := range 8 {
		x[i] = byte(n >> (8 * i))
	}
	return x
}

// leaves are k of them, from leaf(from) on.
func leaves(from uint64, k int) []api.Hash {
	l := make([]api.Hash, k)
	for i := range l {
		l[i] = leaf(from + uint64(i))
	}
	return l
}

// of is a keep of the leaves leaf(0), .., leaf(n - 1).
func of(t *testing.T, w, log, n int) *keep.Keep {
	t.Helper()
	k, e := keep.New(w, log)
	if e != api.OK {
		t.Fatalf("keep.New(%d, %d) is %v", w, log, e)
	}
	for _, l := range leaves(0, n) {
		k.Append(l)
	}
	return k
}

// pinned is such a keep in which some leaves have pins, pruned or not.
func pinned(t *testing.T, w, log, n int, prune bool, pins ...uint64) *keep.Keep {
	t.Helper()
	k := of(t, w, log, n)
	for _, i := range pins {
		same(t, "pinned", "Pin", k.Pin(i), api.OK)
	}
	if prune {
		k.Prune()
	}
	return k
}

// parts are what a keep is made of.
type parts struct {
	width, log int
	size       uint64
	places     []uint64
	nodes      []api.Hash
	pins       map[uint64]int
}

func (x parts) from() (*keep.Keep, api.Errno, int) {
	return keep.From(x.width, x.log, x.size, x.places, x.nodes, x.pins)
}

// partsOf are those of a keep, by its own answers.
func partsOf(k *keep.Keep) parts {
	x := parts{width: k.Width(), log: k.Log(), size: k.Size(), places: k.Live(), pins: map[uint64]int{}}
	for _, p := range x.places {
		h, _ := k.Node(p)
		x.nodes = append(x.nodes, h)
	}
	for _, i := range k.Pinned() {
		x.pins[i] = k.Pins(i)
	}
	return x
}

// again is another keep like k, made by chapter 11 alone.
func again(t *testing.T, k *keep.Keep) *keep.Keep {
	t.Helper()
	x, e, at := partsOf(k).from()
	if e != api.OK {
		t.Fatalf("From of a keep's own is %v, %d", e, at)
	}
	return x
}

// groups is a number in groups of 7 bits, by the words of 1.7.
func groups(x uint64) []byte {
	if x < 128 {
		return []byte{byte(x)}
	}
	return append([]byte{byte(x%128) + 128}, groups(x/128)...)
}

// steps are rising numbers, each told by what it is above the one ahead, less 1; the first as it is.
func steps(rising []uint64) []uint64 {
	l := slices.Clone(rising)
	for j := 1; j < len(l); j++ {
		l[j] = rising[j] - rising[j-1] - 1
	}
	return l
}

// What a piece of an image is.
const (
	aKind = iota
	aWidth
	aLog
	aSize
	aNodeCount
	aPlace
	aHash
	aLeafCount // of those that have pins
	anIndex
	aPinCount
)

// piece is a number, a hash or the first byte of an image.
type piece struct {
	is int
	b  []byte
}

// pieces are those of the image of a keep, by the words of 16.1.
func pieces(x parts) []piece {
	l := []piece{{aKind, []byte{73}}, {aWidth, groups(uint64(x.width))}, {aLog, groups(uint64(x.log))}, {aSize, groups(x.size)}}
	l = append(l, piece{aNodeCount, groups(uint64(len(x.places)))})
	for j, s := range steps(x.places) {
		l = append(l, piece{aPlace, groups(s)}, piece{aHash, slices.Clone(x.nodes[j][:])})
	}
	var rising []uint64
	for i := range x.pins {
		rising = append(rising, i)
	}
	slices.Sort(rising)
	l = append(l, piece{aLeafCount, groups(uint64(len(rising)))})
	for j, s := range steps(rising) {
		l = append(l, piece{anIndex, groups(s)}, piece{aPinCount, groups(uint64(x.pins[rising[j]]))})
	}
	return l
}

// joined are the bytes of pieces.
func joined(l []piece) []byte {
	var b []byte
	for _, p := range l {
		b = append(b, p.b...)
	}
	return b
}

// bytesOf is the image of a keep, by the words of 16.1.
func bytesOf(k *keep.Keep) []byte { return joined(pieces(partsOf(k))) }

// words read an image by the words of 16.2, in numbers that do not wrap round. Behind what is wrong first nothing counts.
type words struct {
	b     []byte
	at    int // it has come to this byte
	e     api.Errno
	where int
}

func (w *words) wrong(e api.Errno, where int) {
	if w.e == api.OK {
		w.e, w.where = e, where
	}
}

// long reads a number by the words of 1.7.
func long(b []byte) (*big.Int, int, api.Errno) {
	last := slices.IndexFunc(b[:min(len(b), 10)], func(c byte) bool { return c < 128 })
	if last < 0 && len(b) < 10 {
		return nil, 0, api.ErrCut
	}
	if last < 0 {
		return nil, 0, api.ErrRange
	}
	x := new(big.Int)
	for _, c := range slices.Backward(b[:last+1]) {
		x.Lsh(x, 7)
		x.Add(x, big.NewInt(int64(c%128)))
	}
	if !x.IsUint64() {
		return nil, 0, api.ErrRange
	}
	if last > 0 && b[last] == 0 {
		return nil, 0, api.ErrForm
	}
	return x, last + 1, api.OK
}

// number reads one, and where it begins; 0, where it can't be read.
func (w *words) number() (*big.Int, int) {
	begins := w.at
	x, n, e := long(w.b[w.at:])
	if e != api.OK {
		w.wrong(e, begins)
		return new(big.Int), begins
	}
	w.at += n
	return x, begins
}

// upTo reads a number from low to high.
func (w *words) upTo(low, high uint64, e api.Errno) uint64 {
	x, begins := w.number()
	if x.Cmp(new(big.Int).SetUint64(low)) < 0 || x.Cmp(new(big.Int).SetUint64(high)) > 0 {
		w.wrong(e, begins)
		return low
	}
	return x.Uint64()
}

// each reads how many come, and has them read as long as nothing is wrong.
func (w *words) each(read func()) {
	count, _ := w.number()
	for left := count.Uint64(); left > 0 && w.e == api.OK; left-- {
		read()
	}
}

// rising reads a number that is told by what it is above the one ahead, less 1, and is to be below end.
func (w *words) rising(ahead []uint64, end uint64, e api.Errno) uint64 {
	x, begins := w.number()
	if len(ahead) > 0 {
		x.Add(x, new(big.Int).SetUint64(ahead[len(ahead)-1]))
		x.Add(x, big.NewInt(1))
	}
	if x.Cmp(new(big.Int).SetUint64(end)) >= 0 {
		w.wrong(e, begins)
		return 0
	}
	return x.Uint64()
}

func (w *words) hash() api.Hash {
	if len(w.b) < w.at+32 {
		w.wrong(api.ErrCut, w.at)
		return api.Hash{}
	}
	w.at += 32
	return api.Hash(w.b[w.at-32:])
}

func (w *words) parts() parts {
	x := parts{pins: map[uint64]int{}}
	if len(w.b) == 0 {
		w.wrong(api.ErrCut, 0)
		return x
	}
	if w.b[0] != 73 {
		w.wrong(api.ErrKind, 0)
	}
	w.at = 1
	x.width = int(w.upTo(1, 32, api.ErrArg))
	x.log = int(w.upTo(0, 16, api.ErrArg))
	x.size = w.upTo(0, 1<<62, api.ErrSize)
	all, _ := pos.Nodes(x.size)
	w.each(func() {
		x.places = append(x.places, w.rising(x.places, all, api.ErrPlace))
		x.nodes = append(x.nodes, w.hash())
	})
	var met []uint64
	w.each(func() {
		met = append(met, w.rising(met, x.size, api.ErrIndex))
		x.pins[met[len(met)-1]] = int(w.upTo(1, full, api.ErrArg))
	})
	if w.at < len(w.b) {
		w.wrong(api.ErrTail, w.at)
	}
	return x
}

// read is what b is the image of, or what is to be answered of it by the words of 16.2.
func read(b []byte) (parts, api.Errno, int) {
	w := words{b: b}
	x := w.parts()
	if w.e == api.OK {
		_, w.e, w.where = x.from()
	}
	return x, w.e, w.where
}

// check holds what Load answers against the words, and what Save writes of that against what it was read from.
func check(t *testing.T, when string, b []byte) (*keep.Keep, api.Errno, int) {
	t.Helper()
	was := slices.Clone(b)
	x, wantE, wantAt := read(b)
	k, e, at := image.Load(b)
	if e != wantE || at != wantAt || (k == nil) != (e != api.OK) {
		t.Fatalf("%s: Load(%x) is %v, %v, %d, want %v, %d", when, b, k, e, at, wantE, wantAt)
	}
	sameBytes(t, when, "what was handed in", b, was)
	if e == api.OK {
		sameParts(t, when, partsOf(k), x)
		sameBytes(t, when, "Save of what Load read", image.Save(k), b)
	}
	return k, e, at
}

// refused holds what Load answers against the words, and against an error and a place.
func refused(t *testing.T, when string, b []byte, wantE api.Errno, wantAt int) {
	t.Helper()
	if _, e, at := check(t, when, b); e != wantE || at != wantAt {
		t.Fatalf("%s: Load(%x) is %v at %d, want %v at %d", when, b, e, at, wantE, wantAt)
	}
}

// loaded is the keep that is read from b, which must be right.
func loaded(t *testing.T, when string, b []byte) *keep.Keep {
	t.Helper()
	k, e, at := check(t, when, b)
	if e != api.OK {
		t.Fatalf("%s: Load(%x) is %v at %d", when, b, e, at)
	}
	return k
}

// same holds two answers against each other.
func same[A comparable](t *testing.T, when, what string, got, want A) {
	t.Helper()
	if got != want {
		t.Fatalf("%s: %s is %v, want %v", when, what, got, want)
	}
}

// sameList holds two lists against each other; nil and empty ones are one.
func sameList[A comparable](t *testing.T, when, what string, got, want []A) {
	t.Helper()
	if !slices.Equal(got, want) {
		t.Fatalf("%s: %s is %v, want %v", when, what, got, want)
	}
}

func sameBytes(t *testing.T, when, what string, got, want []byte) {
	t.Helper()
	if !bytes.Equal(got, want) {
		t.Fatalf("%s: %s is %x, want %x", when, what, got, want)
	}
}

func sameParts(t *testing.T, when string, got, want parts) {
	t.Helper()
	same(t, when, "the width", got.width, want.width)
	same(t, when, "the log", got.log, want.log)
	same(t, when, "the size", got.size, want.size)
	sameList(t, when, "the living places", got.places, want.places)
	sameList(t, when, "the living nodes", got.nodes, want.nodes)
	same(t, when, "the pins", fmt.Sprint(got.pins), fmt.Sprint(want.pins)) // fmt sorts the keys
}

// sameKeep holds all that can be asked of two keeps, changing nothing, against each other; of ProveMany some lists.
func sameKeep(t *testing.T, when string, k, want *keep.Keep) {
	t.Helper()
	sameParts(t, when, partsOf(k), partsOf(want))
	same(t, when, "Chunks", k.Chunks(), want.Chunks())
	same(t, when, "Root", k.Root(), want.Root())
	sameList(t, when, "Peaks", k.Peaks(), want.Peaks())
	n := want.Size()
	for _, p := range append(near(2*n), 1<<63-2, 1<<63-1, 1<<63, far) {
		got, e := k.Node(p)
		if h, wantE := want.Node(p); got != h || e != wantE {
			t.Fatalf("%s: Node(%d) is %x, %v, want %x, %v", when, p, got, e, h, wantE)
		}
	}
	for _, i := range append(near(n), most-1, most, most+1, far) {
		sameLeaf(t, when, k, want, i)
	}
	sameMany(t, when, k, want, nil)
	sameMany(t, when, k, want, k.Pinned())
}

// near are the numbers up to n and a little beyond: all, where these are few, else those at the ends.
func near(n uint64) []uint64 {
	var l []uint64
	if n <= 60 {
		for i := range n + 2 {
			l = append(l, i)
		}
		return l
	}
	for i := range uint64(9) {
		l = append(l, i, n/2+i, n+1-i)
	}
	return l
}

// sameLeaf holds the pins and the proofs of a leaf, and the proof of the prefix ahead of it.
func sameLeaf(t *testing.T, when string, k, want *keep.Keep, i uint64) {
	t.Helper()
	if k.Pins(i) != want.Pins(i) {
		t.Fatalf("%s: Pins(%d) is %d, want %d", when, i, k.Pins(i), want.Pins(i))
	}
	p, e := k.Prove(i)
	if q, wantE := want.Prove(i); e != wantE || p.Size != q.Size || p.Index != q.Index || !slices.Equal(p.Nodes, q.Nodes) {
		t.Fatalf("%s: Prove(%d) is %v, %v, want %v, %v", when, i, p, e, q, wantE)
	}
	a, e := k.ProvePrefix(i)
	if b, wantE := want.ProvePrefix(i); e != wantE || a.From != b.From || a.Size != b.Size || !slices.Equal(a.Nodes, b.Nodes) {
		t.Fatalf("%s: ProvePrefix(%d) is %v, %v, want %v, %v", when, i, a, e, b, wantE)
	}
	sameMany(t, when, k, want, []uint64{i / 2, i})
}

func sameMany(t *testing.T, when string, k, want *keep.Keep, index []uint64) {
	t.Helper()
	p, e := k.ProveMany(index)
	if q, wantE := want.ProveMany(index); e != wantE || p.Size != q.Size || !slices.Equal(p.Index, q.Index) || !slices.Equal(p.Nodes, q.Nodes) {
		t.Fatalf("%s: ProveMany(%v) is %v, %v, want %v, %v", when, index, p, e, q, wantE)
	}
}

// made are the nodes that these leaves more make of a keep.
func made(k *keep.Keep, leaves []api.Hash) []api.Hash {
	var l []api.Hash
	peaks := k.Peaks()
	for j, x := range leaves {
		l = append(l, x)
		for rest := k.Size() + uint64(j); rest%2 == 1; rest /= 2 {
			x = hash.Node(k.Width(), peaks[len(peaks)-1], x)
			peaks = peaks[:len(peaks)-1]
			l = append(l, x)
		}
		peaks = append(peaks, x)
	}
	return l
}

// move does a drawn thing to two keeps, by one of the calls of keeps that change something, and holds the answers against
// each other.
func move(t *testing.T, when string, k, twin *keep.Keep, d *dice) {
	t.Helper()
	i := d.roll(min(twin.Size(), 40) + 1)
	switch d.roll(8) {
	case 0:
		same(t, when, "Append", k.Append(leaf(i+500)), twin.Append(leaf(i+500)))
	case 1:
		data := []byte{byte(i)}
		same(t, when, "Add", k.Add(data), twin.Add(data))
	case 2, 3, 4:
		same(t, when, "Pin", k.Pin(i), twin.Pin(i))
	case 5:
		same(t, when, "Unpin", k.Unpin(i), twin.Unpin(i))
	case 6:
		same(t, when, "Prune", k.Prune(), twin.Prune())
	case 7:
		l := leaves(i+700, int(d.roll(4)))
		grown := made(twin, l)
		same(t, when, "Install", k.Install(grown, uint64(len(l))), twin.Install(grown, uint64(len(l))))
	}
}

// goOn does the same things to two keeps that should answer alike from there on.
func goOn(t *testing.T, when string, k, twin *keep.Keep, seed, moves int) {
	t.Helper()
	d := dice(seed)
	for range moves {
		move(t, when+", gone on", k, twin, &d)
	}
	sameKeep(t, when+", gone on", k, twin)
	sameBytes(t, when+", gone on", "Save", image.Save(k), image.Save(twin))
}

// thin is a keep of n leaves, which may be more than memory has, in which just the peaks live and what the proofs of
// these leaves have; the leaves have pins. A node of which both kids live is what they make, each other one is any hash.
func thin(t *testing.T, w, log int, n uint64, pinned ...uint64) *keep.Keep {
	t.Helper()
	x := parts{width: w, log: log, size: n, places: pos.Peaks(n), pins: map[uint64]int{}}
	for j, i := range pinned {
		l, _ := proof.Places(i, n)
		x.places = append(x.places, l...)
		x.pins[i] = []int{full, 1, full - 1, 128, 127}[j%5]
	}
	slices.Sort(x.places)
	x.places = slices.Compact(x.places)
	known := map[uint64]api.Hash{}
	for _, p := range x.places {
		h := leaf(p)
		l, r, ok := pos.Kids(p)
		left, okL := known[l]
		right, okR := known[r]
		if ok && okL && okR {
			h = hash.Node(w, left, right)
		}
		known[p] = h
		x.nodes = append(x.nodes, h)
	}
	k, e, at := x.from()
	if e != api.OK {
		t.Fatalf("From of %d leaves is %v, %d", n, e, at)
	}
	return k
}

// great are sizes up to MaxLeaves: powers of two, their neighbours, and some between.
func great() []uint64 {
	l := []uint64{300, 0x0123456789abcdef, 0x2aaaaaaaaaaaaaaa, 0x1555555555555555, 0x3ffffffffffffff5}
	for b := 7; b < 62; b += 9 {
		l = append(l, 1<<b-1, 1<<b, 1<<b+1, most-1<<b)
	}
	return append(l, most-3, most-2, most-1, most)
}

// small are keeps of every small number of leaves, of several widths and logs, with pins and without, pruned and not.
func small(t *testing.T, upTo int) []*keep.Keep {
	t.Helper()
	var l []*keep.Keep
	for n := range upTo {
		for turn, w := range []int{1, 2, 31, 32} {
			log := (n + 5*turn) % 17
			l = append(l, of(t, w, log, n), pinned(t, w, log, n, true))
			for _, prune := range []bool{false, true} {
				if n > 0 {
					a, b := uint64(n-1), uint64(n/2)
					l = append(l, pinned(t, w, log, n, prune, a), pinned(t, w, log, n, prune, 0, b, a, a, b, a))
				}
			}
		}
	}
	return l
}

// grown is a keep to which so many things were done that are drawn.
func grown(t *testing.T, seed, moves int) *keep.Keep {
	t.Helper()
	d := dice(seed)
	w, log := 1+int(d.roll(32)), int(d.roll(5))
	k, twin := of(t, w, log, 0), of(t, w, log, 0)
	for range moves {
		move(t, "grown", k, twin, &d)
	}
	return k
}

// behind is l with something behind its length.
func behind[T any](l []T, more ...T) []T { return slices.Concat(l, more)[:len(l)] }

// overwrite writes over all of a list, and behind it, as far as it has room.
func overwrite[T any](l []T, with T) {
	l = l[:cap(l)]
	for i := range l {
		l[i] = with
	}
}

// times is a byte so many times, and what comes behind.
func times(c byte, n int, behind ...byte) []byte {
	return append(bytes.Repeat([]byte{c}, n), behind...)
}

// dice are numbers that are drawn by a rule, the same in every run.
type dice uint64

func (d *dice) roll(n uint64) uint64 {
	*d = *d*6364136223846793005 + 1442695040888963407
	return uint64(*d>>33) % n
}
