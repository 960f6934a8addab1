package part_test

import (
	"testing"

	"massif/api"
	"massif/part"
)

// refusals are some errors that a source may refuse with, those that First has of its own among them.
func refusals() []api.Errno {
	return []api.Errno{api.ErrArg, api.ErrSize, api.ErrPlace, api.ErrPruned, api.ErrNode, api.ErrSame, -1, 1 << 40}
}

// Promise 21.1 and rule R2: who refuses a place ends it, and is the last one that was asked; a's error is the answer,
// where both would refuse. Beside an error nothing is told, whatever stands beside the refusal.
func TestRefusedPlaces(t *testing.T) {
	// Of 7 leaves, which stand at 0, 1, 3, 4, 7, 8, 10, the peaks at 6, 9, 10.
	for _, z := range []struct {
		i     uint64
		asked []uint64
	}{
		{3, []uint64{6, 2, 5, 3, 4}},
		{0, []uint64{6, 2, 0}},
		{5, []uint64{6, 9, 7, 8}},
		{6, []uint64{6, 9, 10}},
	} {
		b := unlikeAt(way(z.i, 7, 0))
		leaf := z.asked[len(z.asked)-1]
		want := api.Parting{Index: z.i, A: h(leaf), B: turned(h(leaf), leaf), Asked: len(z.asked)}
		same(t, 7, ask(plain, b, 7), outcome{want, api.OK, both(z.asked...)})
		for k, p := range z.asked {
			for _, e := range refusals() {
				ahead := both(z.asked[:k]...)
				of := append(ahead[:len(ahead):len(ahead)], query{'a', p})
				same(t, 7, ask(refusing(plain, p, e), b, 7), outcome{e: e, asked: of})
				same(t, 7, ask(refusing(plain, p, e), refusing(b, p, e+1), 7), outcome{e: e, asked: of})
				same(t, 7, ask(plain, refusing(b, p, e), 7), outcome{e: e, asked: both(z.asked[:k+1]...)})
			}
		}
	}
}

// Promise 21.1: a refusal of what nobody is asked for changes nothing.
func TestRefusalsBesideTheWay(t *testing.T) {
	for n := uint64(1); n < 20; n++ {
		for i := range n {
			b := unlikeAt(way(i, n, 0))
			want := firstOf(plain, b, n)
			met := map[uint64]bool{}
			for _, q := range want.asked {
				met[q.place] = true
			}
			beside := func(of tells) tells {
				return func(p uint64) (api.Hash, api.Errno) {
					if x, e := of(p); met[p] {
						return x, e
					}
					return api.Hash{}, api.ErrPruned
				}
			}
			same(t, n, ask(beside(plain), beside(b), n), want)
		}
	}
}

// Promise 21.1: refusals far down, of a left kid and of a right one, by the one and the other, at each height of great
// forests.
func TestRefusalsFarDown(t *testing.T) {
	for _, n := range great() {
		for _, i := range leavesOf(n) {
			_, high := over(i, n)
			b := unlikeAt(way(i, n, 0))
			for low := 0; low <= high; low += 7 {
				for _, s := range []api.Spot{at(low, i>>low), at(low, i>>low&^1)} {
					p := place(s)
					for _, got := range []outcome{
						check(t, refusing(plain, p, api.ErrFull), b, n),
						check(t, plain, refusing(b, p, api.ErrFull), n),
						check(t, refusing(plain, p, api.ErrFull), refusing(b, p, api.ErrLive), n),
					} {
						if low < high && got.e != api.ErrFull {
							t.Fatalf("First of %d, refused at %v, is %v, %v", n, s, got.Parting, got.e)
						}
					}
				}
			}
		}
	}
}

// Promise 21.1: sources that refuse everything are asked for one place, and b for none.
func TestAllRefused(t *testing.T) {
	none := func(p uint64) (api.Hash, api.Errno) { return h(p), api.ErrPruned }
	late := func(p uint64) (api.Hash, api.Errno) { return h(p), api.ErrLate }
	for _, n := range append(great(), 1, 2, 3, 4, 5) {
		first := place(peakSpots(n)[0])
		same(t, n, ask(none, late, n), outcome{e: api.ErrPruned, asked: []query{{'a', first}}})
		same(t, n, ask(plain, late, n), outcome{e: api.ErrLate, asked: both(first)})
	}
	for _, n := range append(beyond(), 0) {
		want := api.ErrSize
		if n == 0 {
			want = api.ErrSame
		}
		same(t, n, ask(none, late, n), outcome{e: want})
	}
	if p, e := part.First(grown(t, 32, nil), grown(t, 32, hashes(0, 9)), 9); p != (api.Parting{}) || e != api.ErrPlace {
		t.Errorf("First of a tree without leaves and one of 9 is %v, %v", p, e)
	}
}
