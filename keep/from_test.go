package keep_test

import (
	"fmt"
	"maps"
	"slices"
	"testing"

	"massif/api"
	"massif/hash"
	"massif/keep"
)

// parts are what From is handed.
type parts struct {
	w, log int
	n      uint64
	places []uint64
	nodes  []api.Hash
	pins   map[uint64]int
}

func (x parts) from() (*keep.Keep, api.Errno, int) {
	return keep.From(x.w, x.log, x.n, x.places, x.nodes, x.pins)
}

// parts are those of a plain keep: what lives of it, and its pins.
func (m *plain) parts() parts {
	return parts{m.w, m.log, m.n, m.living(), m.pick(m.living()), m.theirPins()}
}

// spotAt is what stands at a place: down from the peak of all, left where the left kid is not ahead of the place.
func spotAt(p uint64) api.Spot {
	s := at(62, 0)
	for place(s) != p {
		s = at(int(s.Height)-1, 2*s.Index)
		if place(s) < p {
			s = sibling(s)
		}
	}
	return s
}

// want is what From is to answer, by the words of 11.5.
func (x parts) want() (api.Errno, int) {
	switch {
	case x.log < 0 || x.log > 16:
		return api.ErrArg, 0
	case x.n > most:
		return api.ErrSize, 0
	case len(x.places) != len(x.nodes):
		return api.ErrCount, 0
	}
	for j, p := range x.places {
		switch {
		case j > 0 && p <= x.places[j-1]:
			return api.ErrOrder, j
		case p >= count(x.n):
			return api.ErrPlace, j
		}
	}
	known := map[uint64]api.Hash{}
	for j, p := range x.places {
		known[p] = x.nodes[j]
	}
	all := func(l []uint64) bool {
		return !slices.ContainsFunc(l, func(p uint64) bool { _, ok := known[p]; return !ok })
	}
	if !all(placesOf(peaks(x.n))) {
		return api.ErrPruned, 0
	}
	for j, p := range x.places {
		if s := spotAt(p); s.Height > 0 {
			low := int(s.Height) - 1
			l, r := place(at(low, 2*s.Index)), place(at(low, 2*s.Index+1))
			if all([]uint64{l, r}) && hash.Node(x.w, known[l], known[r]) != x.nodes[j] {
				return api.ErrNode, j
			}
		}
	}
	for i, c := range x.pins {
		if i >= x.n || c < 1 || c > full || !all(ofLeaf(i, x.n)) {
			return api.ErrPin, 0
		}
	}
	return api.OK, 0
}

// check holds what From answers against the words, and against what is known to be wanted.
func (x parts) check(t *testing.T, when string, wantE api.Errno, wantAt int) *keep.Keep {
	t.Helper()
	if e, at := x.want(); e != wantE || at != wantAt {
		t.Fatalf("%s: by the words %v, %d, want %v, %d", when, e, at, wantE, wantAt)
	}
	return x.checkWords(t, when)
}

// checkWords holds what From answers against the words alone.
func (x parts) checkWords(t *testing.T, when string) *keep.Keep {
	t.Helper()
	wantE, wantAt := x.want()
	k, e, at := x.from()
	if e != wantE || at != wantAt || (k == nil) != (e != api.OK) {
		t.Fatalf("%s: From(%d, %d, %d, %v, .., %v) is %v, %v, %d, want %v, %d", when, x.w, x.log, x.n, x.places, x.pins, k, e, at, wantE, wantAt)
	}
	if e != api.OK {
		return nil
	}
	same(t, when, "Size", k.Size(), x.n)
	same(t, when, "Width", k.Width(), min(max(x.w, 1), 32))
	same(t, when, "Log", k.Log(), x.log)
	same(t, when, "Chunks", k.Chunks(), chunksOf(x.places, x.log))
	sameList(t, when, "Live", k.Live(), x.places)
	for j, p := range x.places {
		if got, e := k.Node(p); got != x.nodes[j] || e != api.OK {
			t.Fatalf("%s: Node(%d) is %x, %v", when, p, got, e)
		}
	}
	sameList(t, when, "Pinned", k.Pinned(), slices.Sorted(maps.Keys(x.pins)))
	for i, c := range x.pins {
		same(t, when, "Pins", k.Pins(i), c)
	}
	return k
}

// whole are the parts of a keep of n leaves of which all nodes live.
func whole(w, log, n int) parts { return grown(w, log, 40, n).parts() }

// Promise 11.5: each set of nodes of small forests, right ones: refused just where a peak lacks; else a keep of these,
// which is grown and pruned like one that was pruned to them.
func TestFromEachSet(t *testing.T) {
	for n := range uint64(6) {
		for turn, set := range sets(count(n)) {
			m := grown(32, turn%3, 40, int(n))
			clear(m.live)
			for _, p := range set {
				m.live[p] = true
			}
			when := fmt.Sprintf("%d leaves, %v live", n, set)
			k := m.parts().checkWords(t, when)
			if k == nil {
				continue
			}
			hold(t, when, k, m)
			for i := range n {
				same(t, when, "Pin", k.Pin(i), m.pin(i))
			}
			grow(t, k, m, 1+turn%4, turn)
			hold(t, when+", grown", k, m)
			pruned(t, when+", grown", k, m)
		}
	}
}

// Promise 11.5: each set of nodes of small forests with one or two wrong ones: the first that is told is a parent whose
// kids are both there.
func TestFromWrongNodes(t *testing.T) {
	for n := uint64(1); n < 6; n++ {
		right := whole(32, 1, int(n))
		for _, set := range sets(count(n)) {
			x := right
			x.places = set
			x.nodes = nil
			for _, p := range set {
				x.nodes = append(x.nodes, right.nodes[p])
			}
			for a := range set {
				for b := a; b < len(set); b++ {
					y := x
					y.nodes = slices.Clone(x.nodes)
					y.nodes[a] = turned(y.nodes[a], 0)
					y.nodes[b] = turned(y.nodes[b], 255)
					y.checkWords(t, fmt.Sprintf("%v live, of which %d and %d are wrong", set, a, b))
				}
			}
		}
	}
}

// Promise 11.5: a node that is wrong by any bit, and one that is right of another width.
func TestFromEachBit(t *testing.T) {
	x := whole(32, 1, 7)
	for bit := range 256 {
		for j, wantAt := range map[int]int{0: 2, 3: 5, 2: 2, 5: 5, 6: 6, 7: 9, 9: 9} {
			y := x
			y.nodes = slices.Clone(x.nodes)
			y.nodes[j] = turned(y.nodes[j], bit)
			y.check(t, fmt.Sprintf("bit %d of node %d", bit, j), api.ErrNode, wantAt)
		}
		y := x
		y.nodes = slices.Clone(x.nodes)
		y.nodes[10] = turned(y.nodes[10], bit)
		y.check(t, "a leaf that is a peak", api.OK, 0)
	}
	for w := 1; w < 32; w++ {
		y := x
		y.w = w
		y.check(t, "nodes of another width", api.ErrNode, 2)
		whole(w, 1, 7).check(t, "nodes of the width", api.OK, 0)
	}
	for w, like := range map[int]int{-5: 1, 0: 1, 33: 32, 1 << 40: 32} {
		y := whole(like, 1, 7)
		y.w = w
		y.check(t, "a width that counts as another one", api.OK, 0)
	}
}

// Promise 11.5: no leaves, no nodes, no pins: nil or empty.
func TestFromNothing(t *testing.T) {
	for log := range 17 {
		for _, x := range []parts{{w: 32, log: log}, {32, log, 0, []uint64{}, []api.Hash{}, map[uint64]int{}}} {
			k := x.check(t, "nothing", api.OK, 0)
			m := empty(32, log)
			hold(t, "nothing", k, m)
			grow(t, k, m, 9, log)
			same(t, "grown", "Pin", k.Pin(3), m.pin(3))
			pruned(t, "grown from nothing", k, m)
		}
	}
	x := parts{w: 32, places: []uint64{0}, nodes: hashes(0, 1)}
	x.check(t, "a node of no leaf", api.ErrPlace, 0)
	x = parts{w: 32, pins: map[uint64]int{0: 1}}
	x.check(t, "a pin of no leaf", api.ErrPin, 0)
	x = parts{w: 32, n: 1}
	x.check(t, "a leaf that is not there", api.ErrPruned, 0)
}

// Promise 11.5: logs and sizes that are none, ahead of all else that is wrong.
func TestFromArguments(t *testing.T) {
	x := whole(32, 0, 5)
	spoilt := parts{n: 5, places: []uint64{9, 9, 3}, nodes: hashes(0, 1), pins: map[uint64]int{7: -1}}
	for _, y := range []parts{x, spoilt} {
		for _, log := range []int{-1 << 40, -1, 17, 1 << 40} {
			for _, n := range []uint64{0, 5, most, most + 1, far} {
				y.log, y.n = log, n
				y.check(t, "no log", api.ErrArg, 0)
			}
		}
		y.log = 16
		for _, n := range []uint64{most + 1, most + 2, 1<<63 - 1, 1 << 63, far} {
			y.n = n
			y.check(t, "no size", api.ErrSize, 0)
		}
	}
	x.check(t, "right ones", api.OK, 0)
}

// Promise 11.5: lists of unlike lengths, ahead of what is wrong in them.
func TestFromCount(t *testing.T) {
	for n := range 9 {
		x := whole(32, 0, n)
		for long := range 2 * n {
			y := x
			y.nodes = behind(hashes(0, long), hashes(3, 9)...)
			if long != len(x.nodes) {
				y.check(t, "another number of nodes", api.ErrCount, 0)
			}
			y = x
			y.places = behind(make([]uint64, long), 1, 2, 3)
			if long != len(x.places) {
				y.check(t, "another number of places", api.ErrCount, 0)
			}
		}
	}
}

// Promise 11.5: places that do not rise, or are none: the first of them, which of the two it is, and where.
func TestFromPlaces(t *testing.T) {
	for _, c := range []struct {
		places []uint64
		e      api.Errno
		at     int
	}{
		{[]uint64{3, 3}, api.ErrOrder, 1}, {[]uint64{0, 0}, api.ErrOrder, 1}, {[]uint64{3, 2}, api.ErrOrder, 1}, {[]uint64{1, 0, 99}, api.ErrOrder, 1}, {[]uint64{0, 1, 2, 2, 99}, api.ErrOrder, 3},
		{[]uint64{11}, api.ErrPlace, 0}, {[]uint64{10, 11}, api.ErrPlace, 1}, {[]uint64{3, 99, 4}, api.ErrPlace, 1}, {[]uint64{99, 99}, api.ErrPlace, 0}, {[]uint64{99, 3}, api.ErrPlace, 0}, {[]uint64{far, far}, api.ErrPlace, 0},
		{[]uint64{0, far, 0}, api.ErrPlace, 1}, {[]uint64{6, 9, 10, 11}, api.ErrPlace, 3}, {[]uint64{6, 9, 10, 10}, api.ErrOrder, 3}, {[]uint64{6, 9, 10, 6}, api.ErrOrder, 3}, {[]uint64{1<<63 - 1}, api.ErrPlace, 0},
		{[]uint64{0, 1, 5, 4, 5}, api.ErrOrder, 3}, {[]uint64{6, 5, 9, 10}, api.ErrOrder, 1},
	} {
		for _, pins := range []map[uint64]int{nil, {9: 0}} {
			x := parts{32, 2, 7, c.places, hashes(0, len(c.places)), pins}
			x.check(t, "wrong places", c.e, c.at)
		}
	}
}

// Promise 11.5: one place turned to another number, of each list of small sizes.
func TestFromEachPlace(t *testing.T) {
	for n := uint64(1); n < 9; n++ {
		x := whole(32, 2, int(n))
		for j := range x.places {
			for p := range count(n) + 3 {
				y := x
				y.places = slices.Clone(x.places)
				y.places[j] = p
				y.checkWords(t, "a place turned")
			}
		}
	}
}

// Promise 11.5: a peak that is not there, ahead of wrong nodes and pins.
func TestFromWithoutAPeak(t *testing.T) {
	for n := uint64(1); n < 20; n++ {
		x := whole(32, 2, int(n))
		for _, p := range placesOf(peaks(n)) {
			y := x
			y.places = slices.Delete(slices.Clone(x.places), int(p), int(p)+1)
			y.nodes = slices.Delete(slices.Clone(x.nodes), int(p), int(p)+1)
			y.check(t, "without a peak", api.ErrPruned, 0)
			y.nodes = hashes(0, len(y.nodes))
			y.pins = map[uint64]int{n: 0}
			y.check(t, "without a peak, all else wrong", api.ErrPruned, 0)
		}
	}
}

// Promise 11.5: a wrong node is told ahead of a wrong pin; of several the first.
func TestFromFirstNode(t *testing.T) {
	x := whole(32, 2, 7)
	x.nodes = slices.Clone(x.nodes)
	x.pins = map[uint64]int{7: 0}
	for _, j := range []int{9, 6, 5, 2} {
		x.nodes[j] = turned(x.nodes[j], 7)
		x.check(t, "from the last to the first", api.ErrNode, j)
	}
	y := parts{32, 0, 4, []uint64{2, 3, 6}, hashes(0, 3), nil}
	y.check(t, "only one kid each", api.OK, 0)
	y = parts{32, 0, 4, []uint64{2, 5, 6}, hashes(0, 3), nil}
	y.check(t, "two kids, at another place in the list", api.ErrNode, 2)
}

// Promise 11.5: pins of leaves that are none, of numbers that are none, of leaves whose nodes are not all there.
func TestFromPins(t *testing.T) {
	for n := uint64(1); n < 12; n++ {
		x := whole(32, 1, int(n))
		for _, c := range []struct {
			i uint64
			c int
			e api.Errno
		}{
			{n - 1, 1, api.OK}, {0, 1, api.OK}, {0, 2, api.OK}, {n - 1, full - 1, api.OK}, {n / 2, full, api.OK},
			{n, 1, api.ErrPin}, {n + 1, 1, api.ErrPin}, {most, 1, api.ErrPin}, {far, 1, api.ErrPin}, {n, 0, api.ErrPin},
			{0, 0, api.ErrPin}, {0, -1, api.ErrPin}, {n - 1, -1 << 40, api.ErrPin}, {0, full + 1, api.ErrPin}, {n - 1, 1 << 40, api.ErrPin}, {0, 1<<32 + 1, api.ErrPin}, {0, -1 << 63, api.ErrPin},
		} {
			x.pins = map[uint64]int{c.i: c.c}
			x.check(t, "one pin", c.e, 0)
			for i := range n {
				if i != c.i {
					x.pins[i] = int(i) + 1
				}
			}
			x.check(t, "among right ones", c.e, 0)
		}
	}
}

// Promise 11.5: each leaf pinned where each set of the others' nodes lives.
func TestFromPinsOfPruned(t *testing.T) {
	for n := uint64(1); n < 9; n++ {
		for _, set := range sets(n) {
			m := grown(32, 1, 40, int(n))
			for _, i := range set {
				m.pin(i)
			}
			m.prune()
			x := m.parts()
			for i := range n {
				y := x
				y.pins = map[uint64]int{i: 3}
				y.checkWords(t, fmt.Sprintf("a pin of %d of %d, where %v are kept", i, n, set))
				y.pins = maps.Clone(x.pins)
				y.pins[i] += 2
				y.checkWords(t, fmt.Sprintf("a pin more of %d of %d, where %v are kept", i, n, set))
			}
			for k, p := range x.places {
				y := x
				y.places = slices.Delete(slices.Clone(x.places), k, k+1)
				y.nodes = slices.Delete(slices.Clone(x.nodes), k, k+1)
				y.checkWords(t, fmt.Sprintf("without %d, where %v are kept", p, set))
			}
		}
	}
}

// Promise 11.5: parts that are drawn, with several wrong at once.
func TestFromDrawn(t *testing.T) {
	met := map[api.Errno]int{}
	for seed := range dice(6000) {
		d := seed
		m := grown(32, int(d.next(4)), 40, int(d.next(12)))
		for range d.next(4) {
			m.pin(d.next(m.n + 1))
		}
		if d.next(2) == 0 {
			m.prune()
		}
		x := m.parts()
		for range d.next(3) {
			x.spoil(&d)
		}
		x.checkWords(t, fmt.Sprintf("drawn %d", seed))
		e, _ := x.want()
		met[e]++
	}
	for _, e := range []api.Errno{api.OK, api.ErrArg, api.ErrSize, api.ErrCount, api.ErrOrder, api.ErrPlace, api.ErrPruned, api.ErrNode, api.ErrPin} {
		if met[e] < 20 {
			t.Errorf("%v was drawn %d times", e, met[e])
		}
	}
}

// spoil changes something that is drawn.
func (x *parts) spoil(d *dice) {
	long := uint64(len(x.places))
	switch d.next(9) {
	case 0:
		x.log = []int{-1, 16, 17}[d.next(3)]
	case 1:
		x.n = []uint64{most + 1, x.n + 1, x.n / 2, most}[d.next(4)]
	case 2:
		x.nodes = append(x.nodes, h(1))
	case 3:
		x.places, x.nodes = append(x.places, d.next(count(12))), append(x.nodes, h(2))
	case 4:
		x.pins[d.next(14)] = []int{0, 1, 2, full, full + 1}[d.next(5)]
	case 5, 6:
		if long > 0 && len(x.nodes) == len(x.places) {
			x.nodes[d.next(long)] = h(77)
		}
	case 7:
		if long > 0 {
			x.places[d.next(long)] = d.next(count(12))
		}
	case 8:
		if long > 0 && len(x.nodes) == len(x.places) {
			j := int(d.next(long))
			x.places, x.nodes = slices.Delete(x.places, j, j+1), slices.Delete(x.nodes, j, j+1)
		}
	}
}

// Promise 11.9: what From makes of a keep's own answers, after any call, goes on beside that keep, call by call.
func TestFromOfOwn(t *testing.T) {
	for seed := range dice(25) {
		d := seed
		w, log := 1+int(d.next(32)), int(d.next(5))
		k, m := fresh(t, w, log), empty(w, log)
		for step := range 25 {
			when := fmt.Sprintf("run %d, step %d", seed, step)
			copied, c := again(t, when, k), m.clone()
			hold(t, when+", from its own", copied, c)
			e := d
			for range 6 {
				move(t, when+", the copy", copied, c, &e)
			}
			hold(t, when+", the copy gone on", copied, c)
			hold(t, when+", ahead", k, m)
			if seed%2 == 0 { // go on with what From makes
				k = again(t, when, k)
			}
			move(t, when, k, m, &d)
		}
	}
}

// Promise 11.9: of each small size and set of pinned leaves.
func TestFromOfOwnEachSet(t *testing.T) {
	for n := range uint64(8) {
		for turn, set := range sets(n) {
			k, m := of(t, 32, turn%4, 0, int(n))
			for j, i := range set {
				for range 1 + j%3 {
					k.Pin(i)
					m.pin(i)
				}
			}
			when := fmt.Sprintf("%d leaves, %v pinned", n, set)
			for range 2 {
				x, c := again(t, when, k), m.clone()
				hold(t, when, x, c)
				grow(t, x, c, 3, turn)
				pruned(t, when+", grown", x, c)
				same(t, when, "Prune", k.Prune(), m.prune())
			}
			hold(t, when, k, m)
		}
	}
}
