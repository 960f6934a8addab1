package pos_test

import (
	"math/bits"
	"slices"
	"testing"

	"massif/api"
	"massif/pos"
)

// Promises 3.1 to 3.6: the examples of the chapter.
func TestExamples(t *testing.T) {
	for _, c := range []struct {
		name string
		x    uint64
		want both
	}{
		{"Nodes", 0, both{0, true}}, {"Nodes", 1, both{1, true}}, {"Nodes", 7, both{11, true}}, {"Nodes", 8, both{15, true}},
		{"Nodes", 1 << 62, both{1<<63 - 1, true}}, {"Nodes", 1<<62 + 1, both{}},
		{"Leaves", 0, both{0, true}}, {"Leaves", 11, both{7, true}}, {"Leaves", 12, both{}}, {"Leaves", 1<<63 - 1, both{1 << 62, true}},
		{"Leaf", 4, both{7, true}}, {"Index", 7, both{4, true}}, {"Index", 6, both{}}, {"Leaf", 1 << 62, both{}},
		{"Parent", 2, both{6, true}}, {"Parent", 5, both{6, true}}, {"Sibling", 2, both{5, true}}, {"Parent", 1<<63 - 2, both{}},
		{"Since", 6, both{4, true}}, {"Since", 7, both{5, true}},
	} {
		if got := pair(calls()[c.name](c.x)); got != c.want {
			t.Errorf("%s(%d) is %v, want %v", c.name, c.x, got, c.want)
		}
	}
	for p, want := range map[uint64]api.Spot{6: {Height: 2}, 9: {Height: 1, Index: 2}} {
		if got, ok := pos.Spot(p); !ok || got != want {
			t.Errorf("Spot(%d) is %v, %v", p, got, ok)
		}
	}
	if p, ok := pos.Place(api.Spot{Height: 1, Index: 2}); !ok || p != 9 {
		t.Errorf("Place of (1, 2) is %d, %v", p, ok)
	}
	if got := three(pos.Kids(6)); got != (kids{2, 5, true}) {
		t.Errorf("Kids(6) are %v", got)
	}
	if got := three(pos.Kids(7)); got != (kids{}) {
		t.Errorf("Kids(7) are %v", got)
	}
	if a, b := three(pos.Under(6)), three(pos.Under(9)); a != (kids{0, 4, true}) || b != (kids{4, 6, true}) {
		t.Errorf("Under is %v, %v", a, b)
	}
	if !pos.Right(5) || pos.Right(2) {
		t.Error("Right of 5, of 2")
	}
	if l := pos.Peaks(7); !slices.Equal(l, []uint64{6, 9, 10}) || len(pos.Peaks(0)) != 0 {
		t.Errorf("Peaks are %v", l)
	}
	if k, ok := pos.Peak(5, 7); !ok || k != 1 {
		t.Errorf("Peak(5, 7) is %d, %v", k, ok)
	}
	one, is := pos.Path(1, 7)
	six, too := pos.Path(6, 7)
	if !is || !too || !slices.Equal(one, []uint64{0, 5}) || len(six) != 0 {
		t.Errorf("Path is %v, %v", one, six)
	}
}

// Promises 3.1 and 3.2: held against a forest that is made leaf by leaf.
func TestSizesAndLeaves(t *testing.T) {
	f := grow(600)
	back := map[uint64]both{}
	for n, m := range f.sizes {
		back[m] = both{uint64(n), true}
		if got := pair(pos.Nodes(uint64(n))); got != (both{m, true}) {
			t.Fatalf("Nodes(%d) is %v, want %d", n, got, m)
		}
	}
	for m := range f.sizes[600] + 1 {
		if got := pair(pos.Leaves(m)); got != back[m] {
			t.Fatalf("Leaves(%d) is %v, want %v", m, got, back[m])
		}
	}
	for p, s := range f.spots {
		want := both{s.Index, true}
		if s.Height > 0 {
			want = both{}
		}
		if got := pair(pos.Index(uint64(p))); got != want {
			t.Fatalf("Index(%d) is %v, want %v", p, got, want)
		}
		if s.Height == 0 {
			if got := pair(pos.Leaf(s.Index)); got != (both{uint64(p), true}) {
				t.Fatalf("Leaf(%d) is %v, want %d", s.Index, got, p)
			}
		}
	}
}

// Promises 3.3 to 3.5: held against a forest that is made leaf by leaf.
func TestKin(t *testing.T) {
	f := grow(2048)
	for at, s := range f.spots[:f.sizes[700]] {
		p := uint64(at)
		if got, ok := pos.Spot(p); !ok || got != s {
			t.Fatalf("Spot(%d) is %v, %v, want %v", p, got, ok, s)
		}
		if got := pair(pos.Place(s)); got != (both{p, true}) {
			t.Fatalf("Place(%v) is %v, want %d", s, got, p)
		}
		if got, want := pair(pos.Parent(p)), (both{f.at[above(s)], true}); got != want {
			t.Fatalf("Parent(%d) is %v, want %v", p, got, want)
		}
		if got, want := pair(pos.Sibling(p)), (both{f.at[mate(s)], true}); got != want {
			t.Fatalf("Sibling(%d) is %v, want %v", p, got, want)
		}
		var under kids
		if s.Height > 0 {
			left := api.Spot{Height: s.Height - 1, Index: 2 * s.Index}
			under = kids{f.at[left], f.at[mate(left)], true}
		}
		if got := three(pos.Kids(p)); got != under {
			t.Fatalf("Kids(%d) are %v, want %v", p, got, under)
		}
		if pos.Right(p) != (s.Index%2 == 1) {
			t.Fatalf("Right(%d), of %v", p, s)
		}
		from := s.Index << s.Height
		if got, want := three(pos.Under(p)), (kids{from, from + 1<<s.Height, true}); got != want {
			t.Fatalf("Under(%d) is %v, want %v", p, got, want)
		}
		first := slices.IndexFunc(f.sizes, func(m uint64) bool { return m > p })
		if got := pair(pos.Since(p)); got != (both{uint64(first), true}) {
			t.Fatalf("Since(%d) is %v, want %d", p, got, first)
		}
	}
}

// Promises 3.1 and 3.2: at the edges of the numbers.
func TestSizesAtTheEdges(t *testing.T) {
	for _, n := range edges() {
		var want both
		if n <= most {
			want = both{2*n - uint64(bits.OnesCount64(n)), true}
		}
		if got := pair(pos.Nodes(n)); got != want {
			t.Errorf("Nodes(%d) is %v, want %v", n, got, want)
		}
		if want.ok {
			if got := pair(pos.Leaves(want.x)); got != (both{n, true}) {
				t.Errorf("Leaves(%d) is %v, want %d", want.x, got, n)
			}
		}
		var at both
		if n < most {
			at = both{down(api.Spot{Index: n}), true}
		}
		if got := pair(pos.Leaf(n)); got != at {
			t.Errorf("Leaf(%d) is %v, want %v", n, got, at)
		}
		// Behind a leaf with an odd index comes its parent: no forest is whole there.
		if at.ok && n%2 == 1 {
			if got := pair(pos.Leaves(at.x + 1)); got != (both{}) {
				t.Errorf("Leaves(%d) is %v", at.x+1, got)
			}
			if got := pair(pos.Index(at.x + 1)); got != (both{}) {
				t.Errorf("Index(%d) is %v", at.x+1, got)
			}
		}
	}
	for _, m := range []uint64{size - 1, size + 1, size + 2, far - 1, far} {
		if got := pair(pos.Leaves(m)); got != (both{}) {
			t.Errorf("Leaves(%d) is %v", m, got)
		}
	}
	if got := pair(pos.Leaves(size)); got != (both{most, true}) {
		t.Errorf("Leaves of all is %v", got)
	}
	if got := pair(pos.Index(size)); got != (both{}) {
		t.Errorf("Index behind all is %v", got)
	}
}

// Promises 3.3 to 3.5: what is no place has nothing, and neither has a spot that no node is.
func TestNoPlace(t *testing.T) {
	for _, p := range []uint64{size, size + 1, size + 2, far - 1, far} {
		for name, call := range calls() {
			if name == "Leaves" && p == size {
				continue
			}
			if got := pair(call(p)); got != (both{}) {
				t.Errorf("%s(%d) is %v", name, p, got)
			}
		}
		if s, ok := pos.Spot(p); ok || s != (api.Spot{}) {
			t.Errorf("Spot(%d) is %v, %v", p, s, ok)
		}
		if a, b := three(pos.Kids(p)), three(pos.Under(p)); a != (kids{}) || b != (kids{}) || pos.Right(p) {
			t.Errorf("Kids, Under, Right of %d: %v, %v", p, a, b)
		}
	}
	for h := range 256 {
		for _, k := range append(edges(), far) {
			s := api.Spot{Height: uint8(h), Index: k}
			var want both
			if h <= 62 && k < most>>h {
				want = both{down(s), true}
			}
			if got := pair(pos.Place(s)); got != want {
				t.Errorf("Place(%v) is %v, want %v", s, got, want)
			}
		}
	}
}

// Promise 3.4: the peak of all has kids, but no parent and no sibling.
func TestPeakOfAll(t *testing.T) {
	p := size - 1
	if s, ok := pos.Spot(p); !ok || s != (api.Spot{Height: 62}) {
		t.Errorf("Spot is %v, %v", s, ok)
	}
	if a, b := pair(pos.Parent(p)), pair(pos.Sibling(p)); a != (both{}) || b != (both{}) || pos.Right(p) {
		t.Errorf("Parent, Sibling are %v, %v", a, b)
	}
	if got := three(pos.Kids(p)); got != (kids{size/2 - 1, p - 1, true}) {
		t.Errorf("Kids are %v", got)
	}
	if a, b := three(pos.Under(p)), pair(pos.Since(p)); a != (kids{0, most, true}) || b != (both{most, true}) {
		t.Errorf("Under, Since are %v, %v", a, b)
	}
}

// Promise 3.7: the three formulas, at all heights.
func TestFormulas(t *testing.T) {
	for n := range uint64(5000) {
		m, ok := pos.Nodes(n)
		if at := pair(pos.Leaf(n)); !ok || m != 2*n-uint64(bits.OnesCount64(n)) || at != (both{m, true}) {
			t.Fatalf("Nodes(%d) is %d, Leaf %v", n, m, at)
		}
	}
	for _, s := range spots() {
		m, ok := pos.Nodes((s.Index+1)<<s.Height - 1)
		if p := pair(pos.Place(s)); !ok || p != (both{m + uint64(s.Height), true}) || p.x != down(s) {
			t.Fatalf("Place(%v) is %v, behind %d; want %d", s, p, m, down(s))
		}
	}
}

// Promise 3.8: there and back, at all heights.
func TestThereAndBack(t *testing.T) {
	places := append(edges(), 0)
	for _, s := range spots() {
		p, ok := pos.Place(s)
		if x, is := pos.Spot(p); !ok || !is || x != s {
			t.Fatalf("Spot(Place(%v)) is %v", s, x)
		}
		places = append(places, p)
	}
	for _, p := range places {
		s, ok := pos.Spot(p)
		if ok != (p < size) {
			t.Fatalf("Spot(%d) is %v, %v", p, s, ok)
		}
		if !ok {
			continue
		}
		if got := pair(pos.Place(s)); got != (both{p, true}) || down(s) != p {
			t.Fatalf("Place(Spot(%d)) is %v; Spot is %v", p, got, s)
		}
		if p < size-1 {
			checkFamily(t, p)
		}
	}
}

func checkFamily(t *testing.T, p uint64) {
	t.Helper()
	up, ok := pos.Parent(p)
	sib, is := pos.Sibling(p)
	if !ok || !is || up <= p || up <= sib {
		t.Fatalf("Parent, Sibling of %d: %d %v, %d %v", p, up, ok, sib, is)
	}
	if got := pair(pos.Parent(sib)); got != (both{up, true}) {
		t.Fatalf("Parent of %d, the sibling of %d, is %v, not %d", sib, p, got, up)
	}
	want := kids{p, sib, true}
	if pos.Right(p) {
		want = kids{sib, p, true}
	}
	if got := three(pos.Kids(up)); got != want || got.left >= got.right {
		t.Fatalf("Kids(Parent(%d)) are %v, want %v", p, got, want)
	}
	a, b, whole := three(pos.Under(want.left)), three(pos.Under(want.right)), three(pos.Under(up))
	if !a.ok || !b.ok || !whole.ok || a.left != whole.left || a.right != b.left || b.right != whole.right || a.right-a.left != b.right-b.left {
		t.Fatalf("Under the kids of %d is %v, %v; under it %v", up, a, b, whole)
	}
}
