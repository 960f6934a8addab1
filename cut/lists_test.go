package cut_test

import (
	"slices"
	"testing"

	"massif/api"
	"massif/cut"
)

// few are right spots, low and high, that follow one another in many ways.
func few() []api.Spot {
	return []api.Spot{
		at(0, 0), at(0, 1), at(0, 2), at(0, 3), at(1, 0), at(1, 1), at(1, 2), at(2, 0), at(2, 1), at(3, 0),
		at(62, 0), at(61, 0), at(61, 1), at(60, 1), at(60, 2), at(60, 3), at(0, most-1), at(0, most-2), at(1, most/2-1),
	}
}

// checkBoth holds Over and Merge against the model.
func checkBoth(t *testing.T, l []api.Spot) {
	t.Helper()
	want := over(l)
	checkOver(t, l, want)
	if want.ok || len(l) == 0 {
		checkMerge(t, l, mergeFirst(l), true)
		checkMerge(t, l, mergeLast(l), true)
	} else {
		checkMerge(t, l, nil, false)
	}
}

// Promises 4.1 and 4.4: all short lists of some spots, right and wrong: with gaps, with overlaps, in the wrong order.
func TestShortLists(t *testing.T) {
	some := append(few(), wrong()[:20]...)
	checkBoth(t, nil)
	checkBoth(t, []api.Spot{})
	for _, a := range some {
		checkBoth(t, []api.Spot{a})
		for _, b := range some {
			checkBoth(t, []api.Spot{a, b})
			for _, c := range some {
				checkBoth(t, []api.Spot{a, b, c})
			}
		}
	}
}

// Promises 4.1 and 4.4: one wrong spot, at each place of a list.
func TestOneWrongSpot(t *testing.T) {
	good := []api.Spot{at(0, 5), at(1, 3), at(3, 1), at(0, 16), at(0, 17), at(1, 9)}
	checkOver(t, good, told{5, 20, true})
	for _, s := range wrong() {
		if isRight(s) {
			t.Fatalf("%v is right", s)
		}
		for i := range good {
			l := slices.Clone(good)
			l[i] = s
			checkOver(t, l, told{})
			checkMerge(t, l, nil, false)
			l = slices.Insert(slices.Clone(good), i, s)
			checkOver(t, l, told{})
			checkMerge(t, l, nil, false)
		}
		checkOver(t, append(slices.Clone(good), s), told{})
	}
}

// Promises 4.1 and 4.4: wrong spots that would follow what is ahead of them, if numbers wrapped round, and the spots
// behind the last leaf of all.
func TestNothingWrapsRound(t *testing.T) {
	for _, l := range [][]api.Spot{
		{at(0, 0), at(0, 1), at(1, 1<<63+1)},
		{at(1, 1<<63), at(0, 2)},
		{at(0, 0), at(0, 1), at(1, 1), at(2, 1<<62+1), at(3, 1)},
		{at(62, 0), at(62, 1)},
		{at(62, 0), at(0, most)},
		{at(61, 0), at(61, 1), at(61, 2)},
		{at(0, most-1), at(0, most)},
		{at(0, far), at(0, 0)},
		{at(1, far), at(0, 0)},
		{at(64, 0), at(64, 1)},
		{at(255, 0), at(0, 0)},
		{at(64, 5), at(0, 0), at(0, 1)},
	} {
		checkOver(t, l, told{})
		checkMerge(t, l, nil, false)
	}
}

// Promises 4.1, 4.4, 4.5 and 4.8: all lists over some leaves, wherever they begin.
func TestAllLists(t *testing.T) {
	for to := range uint64(17) {
		for from := range to {
			want := cut.Span(from, to)
			for _, l := range tilings(from, to) {
				checkOver(t, l, told{from, to, true})
				if a, b := mergeFirst(l), mergeLast(l); !slices.Equal(a, want) || !slices.Equal(b, want) {
					t.Fatalf("%v, merged by hand, is %v, %v", l, a, b)
				}
				checkMerge(t, l, want, true)
			}
		}
	}
}

// Promise 4.1: a spot that is left out, doubled, or changed for its neighbour.
func TestSpoiledLists(t *testing.T) {
	for _, l := range tilings(3, 16) {
		for i := range l {
			checkBoth(t, slices.Delete(slices.Clone(l), i, i+1))
			checkBoth(t, slices.Insert(slices.Clone(l), i, l[i]))
			if i > 0 {
				x := slices.Clone(l)
				x[i-1], x[i] = x[i], x[i-1]
				checkBoth(t, x)
			}
		}
		x := slices.Clone(l)
		slices.Reverse(x)
		checkBoth(t, x)
	}
}

// Promises 4.4 and 4.8: a merge that goes on over all heights, from either side, and one that lacks its first step.
func TestLongMerges(t *testing.T) {
	up, down := []api.Spot{at(0, 0), at(0, 1)}, []api.Spot{}
	for h := uint8(1); h < 62; h++ {
		up = append(up, at(h, 1))
		down = append(down, at(62-h, most>>(62-h)-2))
	}
	down = append(down, at(0, most-2), at(0, most-1))
	all := []api.Spot{at(62, 0)}
	checkOver(t, up, told{0, most, true})
	checkOver(t, down, told{0, most, true})
	checkMerge(t, up, all, true)
	checkMerge(t, down, all, true)
	checkMerge(t, up[1:], up[1:], true)
	checkMerge(t, down[:len(down)-1], down[:len(down)-1], true)
	checkMerge(t, all, all, true)
	checkMerge(t, []api.Spot{at(61, 0), at(61, 1)}, all, true)

	var leaves []api.Spot
	for i := range uint64(1<<16 + 5) {
		leaves = append(leaves, at(0, i))
	}
	checkMerge(t, leaves, []api.Spot{at(16, 0), at(2, 1<<14), at(0, 1<<16+4)}, true)
	checkMerge(t, leaves[1:], cut.Span(1, 1<<16+5), true)
}

// Promise 4.4: neighbours of one height that are no siblings.
func TestNoSiblings(t *testing.T) {
	for h := range uint8(61) {
		for _, k := range []uint64{1, most>>h/2 - 1, most>>h - 3} {
			l := []api.Spot{at(h, k), at(h, k+1)}
			checkOver(t, l, told{k << h, (k + 2) << h, true})
			checkMerge(t, l, l, true)
		}
	}
}

// Rule R3: what is handed in stays as it is, and nothing behind its length is read or written.
func TestWhatIsHandedIn(t *testing.T) {
	for _, l := range [][]api.Spot{
		nil,
		{at(0, 0)},
		{at(1, 0), at(0, 2), at(0, 3), at(0, 4)},
		{at(0, 1), at(0, 2)},
		{at(0, 1), at(0, 3)},
		{at(0, 0), at(0, 1), at(1, 1), at(2, 1)},
	} {
		behind := []api.Spot{at(0, 5), at(63, 9), at(2, 2), at(200, far)}
		room := append(slices.Clone(l), behind...)
		kept := slices.Clone(room)
		given := room[:len(l)]
		checkBoth(t, given)
		got, _ := cut.Merge(given)
		_ = append(got, at(9, 9), at(9, 9), at(9, 9))
		clear(got[:cap(got)])
		if !slices.Equal(room, kept) {
			t.Errorf("%v has become %v", kept, room)
		}
	}
}

// Rule R3: lists that are answered share nothing with one another, their spare room neither.
func TestListsAreNew(t *testing.T) {
	given := []api.Spot{at(0, 1), at(1, 1), at(2, 1), at(0, 8), at(0, 9), at(0, 10)}
	for name, call := range map[string]func() []api.Spot{
		"Span":  func() []api.Spot { return cut.Span(5, 107) },
		"Joins": func() []api.Spot { return cut.Joins(5, 107) },
		"Merge": func() []api.Spot { l, _ := cut.Merge(given); return l },
	} {
		a, b := call(), call()
		want := slices.Clone(b)
		_ = append(a, at(9, 9), at(9, 9), at(9, 9), at(9, 9))
		clear(a[:cap(a)])
		if len(want) == 0 || !slices.Equal(b, want) || !slices.Equal(call(), want) {
			t.Errorf("%s: %v has become %v, and the next one %v", name, want, b, call())
		}
	}
}
