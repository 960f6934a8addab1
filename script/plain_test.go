package script_test

import (
	"fmt"
	"maps"
	"slices"
	"testing"

	"massif/api"
	"massif/hash"
	"massif/image"
	"massif/loom"
	"massif/verify"
)

// atlas has the nodes of a forest in the order in which appends make them, by the words of DOC.md, and where each stands.
type atlas struct {
	spots []api.Spot
	place map[api.Spot]uint64
}

var world = newAtlas(600)

func newAtlas(leaves uint64) atlas {
	a := atlas{place: map[api.Spot]uint64{}}
	for i := range leaves {
		for s := (api.Spot{Index: i}); ; s = parent(s) {
			a.place[s] = uint64(len(a.spots))
			a.spots = append(a.spots, s)
			if s.Index%2 == 0 {
				break
			}
		}
	}
	return a
}

func parent(s api.Spot) api.Spot  { return api.Spot{Height: s.Height + 1, Index: s.Index / 2} }
func sibling(s api.Spot) api.Spot { return api.Spot{Height: s.Height, Index: s.Index ^ 1} }

// has tells whether a forest of n leaves has a node.
func has(s api.Spot, n uint64) bool { return (s.Index+1)<<s.Height <= n }

// nodesOf are the nodes of a forest of n leaves.
func nodesOf(n uint64) []api.Spot { return world.spots[:world.place[api.Spot{Index: n}]] }

// peaksOf are those without a parent.
func peaksOf(n uint64) []api.Spot {
	var l []api.Spot
	for _, s := range nodesOf(n) {
		if !has(parent(s), n) {
			l = append(l, s)
		}
	}
	return l
}

// proofOf are the nodes of a leaf's proof, by 7.1.
func proofOf(i, n uint64) []api.Spot {
	var l []api.Spot
	s := api.Spot{Index: i}
	for ; has(parent(s), n); s = parent(s) {
		l = append(l, sibling(s))
	}
	for _, p := range peaksOf(n) {
		if p != s {
			l = append(l, p)
		}
	}
	return l
}

// spanOf are the fewest perfect trees over the leaves from m to below n: at each leaf the greatest that begins there.
func spanOf(m, n uint64) []api.Spot {
	var l []api.Spot
	for m < n {
		s := api.Spot{Index: m}
		for s.Index%2 == 0 && has(parent(s), n) {
			s = parent(s)
		}
		l, m = append(l, s), m+1<<s.Height
	}
	return l
}

// needOf are the nodes that leaves need, by 10.1.
func needOf(index []uint64, n uint64) []api.Spot {
	var l []api.Spot
	over := func(s api.Spot) bool {
		return slices.ContainsFunc(index, func(i uint64) bool { return i>>s.Height == s.Index })
	}
	for _, s := range nodesOf(n) {
		if !over(s) && (!has(parent(s), n) || over(parent(s))) {
			l = append(l, s)
		}
	}
	return l
}

// short is a number in bytes, by 1.7.
func short(x uint64) []byte {
	var b []byte
	for ; x >= 128; x /= 128 {
		b = append(b, byte(x%128+128))
	}
	return append(b, byte(x))
}

// plain is a model by the words of W1: a list of leaves, and which nodes live. All else is worked out from them.
type plain struct {
	t               *testing.T
	w, log, workers int
	leaves          []api.Hash
	live            map[uint64]struct{}
	pins            map[uint64]int
	held            map[uint64]struct{}
	shut            bool
	known           map[api.Spot]api.Hash // hashes that were worked out
	images          map[string]*plain     // what was saved, by its bytes
}

func newPlain(t *testing.T) *plain {
	p := &plain{t: t, images: map[string]*plain{}}
	p.begin(32, 3, 2)
	return p
}

func (p *plain) begin(w, log, workers int) {
	*p = plain{t: p.t, w: min(max(w, 1), 32), log: log, workers: workers, images: p.images,
		live: map[uint64]struct{}{}, pins: map[uint64]int{}, held: map[uint64]struct{}{}, known: map[api.Spot]api.Hash{}}
}

func (p *plain) closed() bool { return p.shut }

func (p *plain) size() uint64 { return uint64(len(p.leaves)) }

// node is the hash of a node, whether it lives or not.
func (p *plain) node(s api.Spot) api.Hash {
	if s.Height == 0 {
		return p.leaves[s.Index]
	}
	if h, ok := p.known[s]; ok {
		return h
	}
	kid := api.Spot{Height: s.Height - 1, Index: 2 * s.Index}
	p.known[s] = hash.Node(p.w, p.node(kid), p.node(sibling(kid)))
	return p.known[s]
}

func (p *plain) nodes(spots []api.Spot) []api.Hash {
	var l []api.Hash
	for _, s := range spots {
		l = append(l, p.node(s))
	}
	return l
}

// bag is the root over the first n leaves, by 6.1.
func (p *plain) bag(n uint64) api.Hash {
	var acc api.Hash
	peaks := p.nodes(peaksOf(n))
	for i, h := range slices.Backward(peaks) {
		if i == len(peaks)-1 {
			acc = h
		} else {
			acc = hash.Fold(p.w, h, acc)
		}
	}
	return hash.Root(p.w, n, acc)
}

// grow appends leaves one by one.
func (p *plain) grow(texts []string) {
	for _, s := range texts {
		for _, made := range world.spots[len(nodesOf(p.size())):len(nodesOf(p.size()+1))] {
			p.live[world.place[made]] = struct{}{}
		}
		p.leaves = append(p.leaves, hash.Leaf(p.w, []byte(s)))
	}
}

// bytes are a beginning, numbers and nodes, if these live.
func (p *plain) bytes(first byte, numbers []uint64, spots []api.Spot, all bool) (string, api.Errno) {
	b := []byte{first}
	for _, x := range numbers {
		b = append(b, short(x)...)
	}
	for _, s := range spots {
		if _, ok := p.live[world.place[s]]; !ok && !all {
			return "", api.ErrPruned
		}
		h := p.node(s)
		b = append(b, h[:]...)
	}
	return fmt.Sprintf("proof 0x%x", b), api.OK
}

func (p *plain) image() []byte {
	b := []byte{73, byte(p.w), byte(p.log)}
	b = append(b, short(p.size())...)
	b = append(b, short(uint64(len(p.live)))...)
	least := uint64(0)
	for _, at := range slices.Sorted(maps.Keys(p.live)) {
		h := p.node(world.spots[at])
		b = append(append(b, short(at-least)...), h[:]...)
		least = at + 1
	}
	b = append(b, short(uint64(len(p.pins)))...)
	least = 0
	for _, i := range slices.Sorted(maps.Keys(p.pins)) {
		b = append(append(b, short(i-least)...), short(uint64(p.pins[i]))...)
		least = i + 1
	}
	return b
}

// copied is another one like it that has no leaf held.
func (p *plain) copied() *plain {
	q := *p
	q.leaves, q.live, q.pins, q.known = slices.Clone(p.leaves), maps.Clone(p.live), maps.Clone(p.pins), maps.Clone(p.known)
	q.held, q.shut = map[uint64]struct{}{}, false
	return &q
}

func (p *plain) load(b []byte) (string, api.Errno) {
	if q, ok := p.images[string(b)]; ok {
		workers := p.workers
		*p = *q.copied()
		p.workers = workers
		return "ok", api.OK
	}
	_, e, _ := image.Load(b)
	if e == api.OK {
		p.t.Fatalf("an image that nobody saved: %x", b)
	}
	return "", e
}

func (p *plain) answer(name string, v values) (string, api.Errno) {
	switch name {
	case "new":
		if v.counts[1] < 0 || v.counts[1] > 16 || v.counts[2] < 1 || v.counts[2] > 64 {
			return "", api.ErrArg
		}
		p.begin(v.counts[0], v.counts[1], v.counts[2])
		return "ok", api.OK
	case "append", "hold":
		i := p.size()
		p.grow(v.texts)
		if name == "hold" {
			p.held[i] = struct{}{}
		}
		return fmt.Sprintf("leaf %d", i), api.OK
	case "batch", "play":
		return p.batch(name, v)
	case "check":
		return "accepted", verify.Member(p.w, v.hashes[0], v.numbers[0], v.numbers[1], v.hashes[1], v.bytes)
	case "reach":
		return "accepted", verify.Prefix(p.w, v.numbers[0], v.hashes[0], v.numbers[1], v.hashes[1], v.bytes)
	case "load":
		return p.load(v.bytes)
	case "close":
		p.shut = true
		return "ok", api.OK
	case "save":
		b := p.image()
		p.images[string(b)] = p.copied()
		return fmt.Sprintf("image 0x%x", b), api.OK
	case "held":
		return list("held", slices.Sorted(maps.Keys(p.held)), "%d"), api.OK
	case "fresh", "leave":
		return p.flock(name, v.numbers[0])
	}
	return p.ask(name, v.numbers)
}

func (p *plain) batch(name string, v values) (string, api.Errno) {
	n := p.size()
	jobs := len(spanOf(n, n+uint64(len(v.texts))))
	outcome := api.Whole
	if name == "batch" && v.counts[0] >= 0 && v.counts[0] < jobs {
		outcome = api.None
	}
	if name == "play" {
		if v.counts[0] < 0 || v.counts[0] > 65536 {
			return "", api.ErrArg
		}
		l, _ := loom.New(p.workers, jobs, v.counts[0])
		l.Play(v.picks, v.counts[1])
		outcome = l.Outcome()
	}
	if outcome == api.None {
		return fmt.Sprintf("none %d", n), api.OK
	}
	p.grow(v.texts)
	return fmt.Sprintf("whole %d", p.size()), api.OK
}

func (p *plain) flock(name string, i uint64) (string, api.Errno) {
	if _, ok := p.held[i]; !ok {
		return "", api.ErrIndex
	}
	if name == "leave" {
		delete(p.held, i)
		return "ok", api.OK
	}
	return p.bytes(77, []uint64{p.size(), i}, proofOf(i, p.size()), true)
}

// ask answers the lines that are the keep's alone.
func (p *plain) ask(name string, x []uint64) (string, api.Errno) {
	n := p.size()
	switch name {
	case "size":
		chunks := map[uint64]struct{}{}
		for at := range p.live {
			chunks[at>>p.log] = struct{}{}
		}
		return fmt.Sprintf("size %d nodes %d live %d chunks %d", n, len(nodesOf(n)), len(p.live), len(chunks)), api.OK
	case "root":
		return fmt.Sprintf("root 0x%x", p.bag(n)), api.OK
	case "peaks":
		return list("peaks", p.nodes(peaksOf(n)), "0x%x"), api.OK
	case "node":
		return p.nodeAt(x[0])
	case "prove":
		if x[0] >= n {
			return "", api.ErrIndex
		}
		return p.bytes(77, []uint64{n, x[0]}, proofOf(x[0], n), false)
	case "prefix":
		if x[0] > n {
			return "", api.ErrSize
		}
		return p.bytes(80, []uint64{x[0], n}, append(peaksOf(x[0]), spanOf(x[0], n)...), false)
	case "many":
		return p.many(x)
	case "pin", "unpin":
		return p.pin(name, x[0])
	case "pinned":
		return list("pinned", slices.Sorted(maps.Keys(p.pins)), "%d"), api.OK
	case "prune":
		return p.prune(), api.OK
	case "live":
		return list("live", slices.Sorted(maps.Keys(p.live)), "%d"), api.OK
	}
	p.t.Fatalf("no such command: %q", name)
	return "", 0
}

func (p *plain) nodeAt(at uint64) (string, api.Errno) {
	if at >= uint64(len(nodesOf(p.size()))) {
		return "", api.ErrPlace
	}
	if _, ok := p.live[at]; !ok {
		return "", api.ErrPruned
	}
	return fmt.Sprintf("node 0x%x", p.node(world.spots[at])), api.OK
}

func (p *plain) many(index []uint64) (string, api.Errno) {
	numbers := []uint64{p.size(), uint64(len(index))}
	for k, i := range index {
		switch {
		case k > 0 && i <= index[k-1]:
			return "", api.ErrOrder
		case i >= p.size():
			return "", api.ErrIndex
		case k == 0:
			numbers = append(numbers, i)
		default:
			numbers = append(numbers, i-index[k-1]-1)
		}
	}
	return p.bytes(78, numbers, needOf(index, p.size()), false)
}

func (p *plain) pin(name string, i uint64) (string, api.Errno) {
	if i >= p.size() {
		return "", api.ErrIndex
	}
	if name == "unpin" {
		if p.pins[i] == 0 {
			return "", api.ErrPin
		}
		p.pins[i]--
	} else {
		if _, e := p.bytes(77, nil, proofOf(i, p.size()), false); e != api.OK {
			return "", e
		}
		p.pins[i]++
	}
	s := fmt.Sprintf("pins %d", p.pins[i])
	if p.pins[i] == 0 {
		delete(p.pins, i)
	}
	return s, api.OK
}

func (p *plain) prune() string {
	n, before := p.size(), len(p.live)
	stay := peaksOf(n)
	for i := range p.pins {
		stay = append(stay, proofOf(i, n)...)
	}
	left := map[uint64]struct{}{}
	for _, s := range stay {
		left[world.place[s]] = struct{}{} // the proofs of pinned leaves live
	}
	p.live = left
	return fmt.Sprintf("pruned %d", before-len(left))
}
