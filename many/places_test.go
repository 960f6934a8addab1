package many_test

import (
	"slices"
	"testing"

	"massif/api"
	"massif/many"
	"massif/pos"
	"massif/proof"
)

func checkPlaces(t *testing.T, index []uint64, n uint64, want []uint64, wantE api.Errno) {
	t.Helper()
	if got, e := many.Places(index, n); !slices.Equal(got, want) || e != wantE {
		t.Fatalf("Places(%v, %d) is %v, %v, want %v, %v", index, n, got, e, want, wantE)
	}
}

// Promise 10.2: the examples.
func TestPlacesExamples(t *testing.T) {
	checkPlaces(t, []uint64{0, 1}, 7, []uint64{5, 9, 10}, api.OK)
	checkPlaces(t, []uint64{1, 2}, 7, []uint64{0, 4, 9, 10}, api.OK)
	checkPlaces(t, nil, 7, []uint64{6, 9, 10}, api.OK)
	checkPlaces(t, []uint64{0, 1, 2}, 3, nil, api.OK)
	checkPlaces(t, []uint64{1, 1}, 7, nil, api.ErrOrder)
	checkPlaces(t, []uint64{7}, 7, nil, api.ErrIndex)
	checkPlaces(t, []uint64{3, 2, 9}, 7, nil, api.ErrOrder)
}

// Promises 10.1 and 10.2: all sets of leaves of all small sizes, of which each node is looked at by the words of 10.1.
func TestPlacesOfAllSets(t *testing.T) {
	for n := range uint64(13) {
		for _, index := range sets(n) {
			checkPlaces(t, index, n, needs(index, n), api.OK)
		}
	}
}

// Promises 10.1 and 10.2: sets of greater forests: neighbours, one left out, each second one, any.
func TestPlacesOfSomeSets(t *testing.T) {
	d := dice(3)
	for n := uint64(13); n < 70; n++ {
		for a := range n {
			checkPlaces(t, from(0, a), n, needs(from(0, a), n), api.OK)
			checkPlaces(t, from(a, n), n, needs(from(a, n), n), api.OK)
			short := from(a, min(a+5, n))
			checkPlaces(t, short, n, needs(short, n), api.OK)
			ends := rising([]uint64{0, a, n - 1})
			checkPlaces(t, ends, n, needs(ends, n), api.OK)
			but := slices.Concat(from(0, a), from(a+1, n))
			checkPlaces(t, but, n, needs(but, n), api.OK)
		}
		for range 20 {
			one := d.next(5) + 2
			index := slices.DeleteFunc(from(0, n), func(uint64) bool { return d.next(one) == 0 })
			checkPlaces(t, index, n, needs(index, n), api.OK)
			few := slices.DeleteFunc(from(0, n), func(uint64) bool { return d.next(one) > 0 })
			checkPlaces(t, few, n, needs(few, n), api.OK)
		}
	}
}

// Promises 10.1 and 10.2: sizes up to the greatest one.
func TestPlacesOfGreatSizes(t *testing.T) {
	d := dice(4)
	for _, n := range great() {
		for _, index := range someOf(n, &d) {
			checkPlaces(t, index, n, placesOf(needSpots(index, n)), api.OK)
		}
	}
	if l, e := many.Places([]uint64{0, most - 1}, most); len(l) != 122 || e != api.OK {
		t.Errorf("Places of the two ends of all are %d, %v", len(l), e)
	}
	checkPlaces(t, nil, most, []uint64{1<<63 - 2}, api.OK)
}

// Promise 10.2: no leaves, one leaf.
func TestPlacesOfNoneAndOne(t *testing.T) {
	checkPlaces(t, nil, 0, nil, api.OK)
	checkPlaces(t, []uint64{}, 0, nil, api.OK)
	checkPlaces(t, []uint64{0}, 0, nil, api.ErrIndex)
	checkPlaces(t, nil, 1, []uint64{0}, api.OK)
	checkPlaces(t, []uint64{0}, 1, nil, api.OK)
	checkPlaces(t, []uint64{1}, 1, nil, api.ErrIndex)
}

// Promise 10.2, rule R2: of the first index that is wrong, that it doesn't rise, ahead of that it is none.
func TestPlacesOfWrongIndices(t *testing.T) {
	for _, x := range []struct {
		index []uint64
		e     api.Errno
	}{
		{[]uint64{9, 2}, api.ErrIndex}, {[]uint64{2, 9, 3}, api.ErrIndex}, {[]uint64{3, 2, 9}, api.ErrOrder}, {[]uint64{9, 9}, api.ErrIndex}, {[]uint64{0, 0, 7}, api.ErrOrder}, {[]uint64{7, 0}, api.ErrIndex},
		{[]uint64{0, 6, 6}, api.ErrOrder}, {[]uint64{0, 6, 7}, api.ErrIndex}, {[]uint64{1, 2, 3, 4, 5, 4}, api.ErrOrder}, {[]uint64{far}, api.ErrIndex}, {[]uint64{far, 0}, api.ErrIndex}, {[]uint64{0, far}, api.ErrIndex}, {[]uint64{6, 0, far}, api.ErrOrder},
	} {
		checkPlaces(t, x.index, 7, nil, x.e)
	}
	checkPlaces(t, []uint64{most}, most, nil, api.ErrIndex)
	checkPlaces(t, []uint64{most - 1, most}, most, nil, api.ErrIndex)
	checkPlaces(t, []uint64{most - 1, most - 1}, most, nil, api.ErrOrder)
}

// Promise 10.2, rule R2: all lists of three numbers around all small sizes, right and wrong ones.
func TestPlacesOfAnyIndices(t *testing.T) {
	for n := range uint64(6) {
		for a := range n + 2 {
			for b := range n + 2 {
				for c := range n + 2 {
					for _, index := range [][]uint64{{a, b, c}, {a, b}, {a}, {a, far, c}, {far, b, c}} {
						e := wrongIndex(index, n)
						var want []uint64
						if e == api.OK {
							want = needs(index, n)
						}
						checkPlaces(t, index, n, want, e)
					}
				}
			}
		}
	}
}

// Promise 10.2, rule R2: sizes that are none, told ahead of indices that are wrong.
func TestPlacesOfNoSize(t *testing.T) {
	for _, n := range beyond() {
		for _, index := range [][]uint64{nil, {0}, {0, 1}, {1, 0}, {0, 0}, {n}, {far}, {n - 1}} {
			checkPlaces(t, index, n, nil, api.ErrSize)
		}
	}
}

// Promise 10.8: of one leaf, of all and of none.
func TestPlacesOfOneAllNone(t *testing.T) {
	for n := range uint64(130) {
		for i := range n {
			one, _ := proof.Places(i, n)
			slices.Sort(one)
			checkPlaces(t, []uint64{i}, n, one, api.OK)
		}
		checkPlaces(t, from(0, n), n, nil, api.OK)
		checkPlaces(t, nil, n, pos.Peaks(n), api.OK)
	}
	for _, n := range great() {
		for _, i := range edgesOf(n) {
			one, _ := proof.Places(i, n)
			slices.Sort(one)
			checkPlaces(t, []uint64{i}, n, one, api.OK)
		}
		checkPlaces(t, nil, n, pos.Peaks(n), api.OK)
	}
	checkPlaces(t, from(0, 1<<16), 1<<16, nil, api.OK)
	checkPlaces(t, from(0, 1<<16), 1<<16+1, []uint64{1<<17 - 1}, api.OK)
}

// Promise 10.8: under what leaves need stand just all the others, each once, from the left.
func TestOthersStandUnderPlaces(t *testing.T) {
	for n := range uint64(11) {
		nodes := made(n)
		for _, index := range sets(n) {
			l, _ := many.Places(index, n)
			var got []uint64
			for _, p := range l {
				s := nodes[p]
				got = append(got, from(s.Index<<s.Height, (s.Index+1)<<s.Height)...)
			}
			want := slices.DeleteFunc(from(0, n), func(i uint64) bool { return slices.Contains(index, i) })
			if !slices.Equal(got, want) || !slices.IsSorted(l) {
				t.Fatalf("Places(%v, %d) is %v: over %v, want %v", index, n, l, got, want)
			}
		}
	}
}

// Promise 10.8: unlike lists of indices need unlike nodes.
func TestUnlikeListsNeedUnlikeNodes(t *testing.T) {
	for n := range uint64(11) {
		first := map[string][]uint64{}
		for _, index := range sets(n) {
			l, _ := many.Places(index, n)
			var key []byte
			for _, p := range l {
				key = append(key, byte(p))
			}
			if other, ok := first[string(key)]; ok {
				t.Fatalf("of %d leaves %v and %v need the same: %v", n, other, index, l)
			}
			first[string(key)] = index
		}
	}
}

// Rule R3: lists that are answered share nothing with one another nor with what is handed in, their spare room neither;
// what is handed in stays as it is, and what lies behind it is not looked at.
func TestPlacesAreNew(t *testing.T) {
	for n := uint64(1); n < 9; n++ {
		for _, index := range sets(n) {
			list := behind(index, 3, 2, far)
			a, _ := many.Places(list, n)
			b, _ := many.Places(list, n)
			want := needs(index, n)
			_ = append(a, far, far, far)
			clear(a[:cap(a)])
			if !slices.Equal(b, want) {
				t.Fatalf("Places(%v, %d): %v has become %v", index, n, want, b)
			}
			if !slices.Equal(list[:len(list)+3], append(slices.Clone(index), 3, 2, far)) {
				t.Fatalf("%v is changed: %v", index, list[:len(list)+3])
			}
			checkPlaces(t, list, n, want, api.OK)
		}
	}
}
