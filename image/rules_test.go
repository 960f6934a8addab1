package image_test

import (
	"slices"
	"testing"

	"massif/api"
	"massif/image"
	"massif/keep"
)

// some are keeps of all kinds, few of them.
func some(t *testing.T) []*keep.Keep {
	t.Helper()
	return append(small(t, 7), thin(t, 32, 9, most, 0, most/3, most-1), thin(t, 32, 0, 1<<40+5, 1<<40), grown(t, 3, 40), grown(t, 4, 60))
}

// Rule R3: bytes that are handed in are not changed, and what lies behind their length is neither read nor written.
func TestHandedInStays(t *testing.T) {
	for _, k := range some(t) {
		b := image.Save(k)
		for _, more := range [][]byte{{0}, {1, 0, 1}, times(255, 40), b} {
			room := behind(b, more...)
			was := slices.Clone(room[:cap(room)])
			sameKeep(t, "with something behind", loaded(t, "with something behind", room), k)
			sameBytes(t, "with something behind", "what was handed in", room[:cap(room)], was)
			for c := range min(len(b), 60) {
				cut := len(b) - 1 - c
				_, e, at := image.Load(b[:cut])
				if _, wantE, wantAt := image.Load(slices.Clone(b[:cut])); e != api.ErrCut || e != wantE || at != wantAt {
					t.Fatalf("cut off at %d: Load(%x) is %v at %d", cut, b, e, at)
				}
				sameBytes(t, "cut off", "what was handed in", room[:cap(room)], was)
			}
		}
	}
}

// Rule R3: bytes that were handed in are not kept: written over behind the call, they change nothing.
func TestHandedInIsNotKept(t *testing.T) {
	for turn, k := range some(t) {
		b := image.Save(k)
		x := loaded(t, "not kept", b)
		overwrite(b, 77)
		sameKeep(t, "written over", x, k)
		sameBytes(t, "written over", "Save", image.Save(x), bytesOf(k))
		goOn(t, "written over", x, again(t, k), turn, 6)
	}
}

// Rule R3: bytes that are answered, written over with their spare room and appended to, change neither the keep nor other
// bytes that it was saved to.
func TestAnswersAreNew(t *testing.T) {
	for turn, k := range some(t) {
		twin := again(t, k)
		want := bytesOf(k)
		a, b := image.Save(k), image.Save(k)
		_ = append(a, 1, 2, 3)
		sameBytes(t, "appended to", "the other one", b, want)
		overwrite(a, 77)
		_ = append(a, 4, 5, 6)
		sameBytes(t, "written over", "the other one", b, want)
		sameBytes(t, "written over", "Save", image.Save(k), want)
		overwrite(b[:0], 78)
		sameKeep(t, "written over", k, twin)
		goOn(t, "written over", k, twin, turn, 6)
	}
}

// Rule R3: two images of two keeps share nothing, empty ones neither.
func TestImagesOfTwo(t *testing.T) {
	k, x := pinned(t, 32, 1, 5, false, 2), pinned(t, 32, 1, 5, false, 2)
	a, b := image.Save(k), image.Save(x)
	overwrite(a, 1)
	sameBytes(t, "beside another", "Save", b, bytesOf(x))
	empty := image.Save(nil)
	_ = append(empty, 1, 2, 3)
	overwrite(empty, 9)
	same(t, "nil", "how many bytes there are", len(image.Save(nil)), 0)
}

// Rules R3 and R4: two calls of Load of one list of bytes make two keeps: what is done to one is not done to the other,
// nor to the one that was saved; and Save is of a keep as it is then.
func TestTwoLoads(t *testing.T) {
	for turn, k := range some(t) {
		b := image.Save(k)
		was := slices.Clone(b)
		x, y := loaded(t, "the one", b), loaded(t, "the other", b)
		goOn(t, "the one", x, again(t, k), turn, 8)
		sameKeep(t, "the other", y, k)
		sameBytes(t, "the other", "Save", image.Save(y), b)
		goOn(t, "the other", y, again(t, k), turn+1, 8)
		sameBytes(t, "the one that was saved", "Save", image.Save(k), b)
		k.Append(leaf(3))
		sameBytes(t, "a keep that has grown", "Save", image.Save(k), bytesOf(k))
		sameBytes(t, "a keep that has grown", "what was saved ahead", b, was)
	}
}

// Rule R2: Save changes nothing of a keep, now or later; nor does a Load that is refused.
func TestNothingChanges(t *testing.T) {
	for turn, k := range some(t) {
		twin := again(t, k)
		for range 3 {
			b := image.Save(k)
			image.Load(b[:len(b)-1])
			image.Load(append(b, 0))
		}
		sameKeep(t, "saved", k, twin)
		goOn(t, "saved", k, twin, turn, 8)
	}
}

// Rule R4: what is answered does not hang on earlier calls: good and bad bytes in turns, drawn, answer what they answer
// alone; and how a keep came to what it is can't be told from its image.
func TestInTurns(t *testing.T) {
	good := some(t)
	for seed := range dice(300) {
		d := seed
		check(t, "in turns", drawn(t, &d))
		k := good[int(d.roll(uint64(len(good))))]
		loaded(t, "in turns", image.Save(k))
	}
	a, b := of(t, 32, 2, 9), of(t, 32, 2, 0)
	for j, i := range []uint64{1, 5, 8, 3, 5} {
		a.Pin(i)
		if j > 0 {
			a.Unpin(i)
			a.Pin(i)
		}
	}
	b.Install(made(b, leaves(0, 9)), 9)
	for _, i := range []uint64{5, 3, 8, 5, 1} {
		b.Pin(i)
	}
	sameBytes(t, "the same by another way", "Save", image.Save(a), image.Save(b))
	a.Prune()
	b.Prune()
	sameBytes(t, "the same by another way", "Save", image.Save(a), image.Save(b))
}

// Rule R3: beside an error there is no keep; beside a keep the place is 0.
func TestBesideAnError(t *testing.T) {
	for _, c := range faults(t) {
		k, e, at := image.Load(joined(pieces(c.x)))
		if k != nil || e != c.e || at != c.at {
			t.Fatalf("Load is %v, %v, %d, want %v, %d", k, e, at, c.e, c.at)
		}
	}
	for j, k := range some(t) {
		x, e, at := image.Load(image.Save(k))
		if x == nil || x == k || e != api.OK || at != 0 {
			t.Fatalf("keep %d: Load is %v, %v, %d", j, x, e, at)
		}
	}
}
