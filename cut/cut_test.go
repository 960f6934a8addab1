package cut_test

import (
	"slices"
	"testing"

	"massif/api"
	"massif/cut"
)

// Promises 4.1 to 4.4: the examples of the chapter.
func TestExamples(t *testing.T) {
	for _, c := range []struct {
		name      string
		got, want []api.Spot
	}{
		{"Span(0, 7)", cut.Span(0, 7), []api.Spot{at(2, 0), at(1, 2), at(0, 6)}},
		{"Span(3, 8)", cut.Span(3, 8), []api.Spot{at(0, 3), at(2, 1)}},
		{"Span(3, 3)", cut.Span(3, 3), nil},
		{"Span(0, 2^62 + 1)", cut.Span(0, most+1), nil},
		{"Joins(3, 5)", cut.Joins(3, 5), []api.Spot{at(1, 1), at(2, 0), at(3, 0)}},
		{"Joins(0, 4)", cut.Joins(0, 4), nil},
		{"Joins(1, 1)", cut.Joins(1, 1), []api.Spot{at(1, 0)}},
	} {
		if !slices.Equal(c.got, c.want) {
			t.Errorf("%s is %v, want %v", c.name, c.got, c.want)
		}
	}
	checkOver(t, []api.Spot{at(0, 3), at(2, 1)}, told{3, 8, true})
	checkOver(t, []api.Spot{at(0, 3), at(0, 5)}, told{})
	checkOver(t, nil, told{})
	checkMerge(t, []api.Spot{at(1, 0), at(0, 2), at(0, 3), at(0, 4)}, []api.Spot{at(2, 0), at(0, 4)}, true)
	checkMerge(t, []api.Spot{at(0, 1), at(0, 2)}, []api.Spot{at(0, 1), at(0, 2)}, true)
}

func checkOver(t *testing.T, l []api.Spot, want told) {
	t.Helper()
	if got := three(cut.Over(l)); got != want {
		t.Fatalf("Over(%v) is %v, want %v", l, got, want)
	}
}

func checkMerge(t *testing.T, l, want []api.Spot, ok bool) {
	t.Helper()
	if got, is := cut.Merge(l); is != ok || !slices.Equal(got, want) {
		t.Fatalf("Merge(%v) is %v, %v, want %v, %v", l, got, is, want, ok)
	}
}

// Promise 4.2: held against a plain search among all lists, of which just one is the shortest.
func TestSpanIsTheFewest(t *testing.T) {
	for to := range uint64(70) {
		for from := range to {
			want, lists := shortest(from, to)
			if got := cut.Span(from, to); lists != 1 || !slices.Equal(got, want) {
				t.Fatalf("Span(%d, %d) is %v, want %v, one of %d", from, to, got, want, lists)
			}
		}
	}
}

// Promises 4.2 and 4.5: at each leaf the greatest spot that begins there and does not reach beyond.
func TestGreatSpans(t *testing.T) {
	for _, to := range edges() {
		for _, from := range edges() {
			if from >= to {
				break
			}
			l := cut.Span(from, to)
			checkOver(t, l, told{from, to, true})
			checkMerge(t, l, l, true)
			for _, s := range l {
				if s.Height == 62 {
					continue
				}
				up := at(s.Height+1, s.Index/2)
				if a := begins(up).Uint64(); a >= from && ends(up).Uint64() <= to {
					t.Fatalf("Span(%d, %d) has %v, where %v fits", from, to, s, up)
				}
			}
		}
	}
}

// Promise 4.2: the edges of the numbers.
func TestSpanAtTheEdges(t *testing.T) {
	whole := []struct {
		from, to uint64
		want     []api.Spot
	}{
		{0, most, []api.Spot{at(62, 0)}},
		{0, 1, []api.Spot{at(0, 0)}},
		{most - 1, most, []api.Spot{at(0, most-1)}},
		{most - 2, most - 1, []api.Spot{at(0, most-2)}},
		{most - 2, most, []api.Spot{at(1, most/2-1)}},
		{most / 2, most, []api.Spot{at(61, 1)}},
		{most/2 - 1, most/2 + 1, []api.Spot{at(0, most/2-1), at(0, most/2)}},
	}
	for _, c := range whole {
		if got := cut.Span(c.from, c.to); !slices.Equal(got, c.want) {
			t.Errorf("Span(%d, %d) is %v, want %v", c.from, c.to, got, c.want)
		}
	}
	if l := cut.Span(1, most); len(l) != 62 || l[0] != at(0, 1) || l[61] != at(61, 1) {
		t.Errorf("Span of all leaves but the first is %v", l)
	}
	if l := cut.Span(0, most-1); len(l) != 62 || l[0] != at(61, 0) || l[61] != at(0, most-2) {
		t.Errorf("Span of all leaves but the last is %v", l)
	}
	if l := cut.Span(1, most-1); len(l) != 122 || l[60] != at(60, 1) || l[61] != at(60, 2) {
		t.Errorf("Span of all leaves between the first and the last is %v", l)
	}
	for _, c := range [][2]uint64{
		{0, 0}, {3, 3}, {4, 3}, {1, 0}, {far, 0}, {far, far}, {most, most}, {most, most - 1}, {most + 1, most},
		{0, most + 1}, {most - 1, most + 1}, {most, most + 1}, {0, far}, {1, far}, {most, far}, {far - 1, far},
		{0, 1 << 63}, {1 << 63, 1<<63 + 1}, {far, most}, {0, 1<<63 + 8}, {1 << 63, far},
	} {
		if l := cut.Span(c[0], c[1]); len(l) != 0 {
			t.Errorf("Span(%d, %d) is %v", c[0], c[1], l)
		}
	}
}

// Promise 4.3: held against a forest that is made leaf by leaf.
func TestJoins(t *testing.T) {
	for n := range uint64(48) {
		for k := range uint64(48) {
			if got, want := cut.Joins(n, k), joins(n, k); !slices.Equal(got, want) {
				t.Fatalf("Joins(%d, %d) are %v, want %v", n, k, got, want)
			}
		}
	}
}

// Promise 4.3: the edges of the numbers.
func TestJoinsAtTheEdges(t *testing.T) {
	for _, c := range [][2]uint64{
		{0, 0}, {1, 0}, {3, 0}, {most - 1, 0}, {most, 0}, {most + 1, 0}, {far, 0},
		{0, 1}, {0, 7}, {0, most - 1}, {0, most}, {0, most + 1}, {0, far},
		{most, 1}, {most - 1, 2}, {1, most}, {most / 2, most/2 + 1}, {most/2 + 1, most / 2}, {most + 1, 1}, {most + 1, far},
		{1, far}, {2, far}, {far, 1}, {far, 2}, {far, far}, {5, far - 2}, {far - 2, 5}, {1 << 63, 1 << 63}, {1<<63 + 3, 1<<63 + 5},
	} {
		if l := cut.Joins(c[0], c[1]); len(l) != 0 {
			t.Errorf("Joins(%d, %d) are %v", c[0], c[1], l)
		}
	}
	var left, right []api.Spot
	for h := uint8(1); h <= 62; h++ {
		left = append(left, at(h, 0))
		right = append(right, at(h, most>>h-1))
	}
	for _, c := range []struct {
		n, k uint64
		want []api.Spot
	}{
		{1, most - 1, left}, {1, most - 2, left[:61]}, {most - 1, 1, right},
		{most / 2, most / 2, left[61:]}, {most / 2, most/2 - 1, nil}, {most - 2, 2, right[1:]}, {most - 2, 1, nil},
	} {
		if got := cut.Joins(c.n, c.k); !slices.Equal(got, c.want) {
			t.Errorf("Joins(%d, %d) are %v, want %v", c.n, c.k, got, c.want)
		}
	}
}

// Promise 4.7: the new places, each once, of small forests.
func TestNewPlaces(t *testing.T) {
	for n := range uint64(40) {
		for k := range uint64(40) {
			var l []uint64
			for _, s := range cut.Span(n, n+k) {
				p := place(t, s)
				for q := p + 2 - 2<<s.Height; q <= p; q++ {
					l = append(l, q)
				}
			}
			for _, s := range cut.Joins(n, k) {
				l = append(l, place(t, s))
			}
			slices.Sort(l)
			from := nodes(t, n)
			if uint64(len(l)) != nodes(t, n+k)-from {
				t.Fatalf("the new places of %d and %d leaves are %v", n, k, l)
			}
			for i, p := range l {
				if p != from+uint64(i) {
					t.Fatalf("the new places of %d and %d leaves are %v", n, k, l)
				}
			}
		}
	}
}

// Promises 4.3 and 4.7: the joins of great forests are new, rise, lie over leaves on both sides of n, and are as many
// as Span's leave of the new places.
func TestJoinsOfGreatForests(t *testing.T) {
	for _, n := range edges() {
		for _, m := range edges() {
			if m < n {
				continue
			}
			l, span := cut.Joins(n, m-n), cut.Span(n, m)
			left := nodes(t, m) - nodes(t, n)
			for _, s := range span {
				left -= uint64(2)<<s.Height - 1
			}
			if uint64(len(l)) != left || len(l) > len(span)+len(peaks(t, n)) {
				t.Fatalf("Joins(%d, %d) are %d, want %d", n, m-n, len(l), left)
			}
			next := nodes(t, n)
			for _, s := range l {
				p := place(t, s)
				if a, b := begins(s).Uint64(), ends(s).Uint64(); p < next || a >= n || b <= n || b > m {
					t.Fatalf("Joins(%d, %d) have %v, over %d to %d, at %d", n, m-n, s, a, b, p)
				}
				next = p + 1
			}
		}
	}
}

// Promise 4.6: of small and great forests.
func TestPeaksAreASpan(t *testing.T) {
	sizes := edges()
	for n := range uint64(60) {
		sizes = append(sizes, n)
	}
	for _, n := range sizes {
		all := cut.Span(0, n)
		if want := peaks(t, n); !slices.Equal(all, want) {
			t.Fatalf("Span(0, %d) is %v, want %v", n, all, want)
		}
		for _, m := range sizes {
			if m <= n {
				checkMerge(t, append(peaks(t, m), cut.Span(m, n)...), all, true)
			}
		}
	}
}
