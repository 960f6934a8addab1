package part_test

import (
	"testing"

	"massif/api"
	"massif/keep"
	"massif/mmr"
	"massif/part"
)

// Rule R4: who asks again is told the same, whatever was asked in between, and has changed no source.
func TestAskedAgain(t *testing.T) {
	x := hashes(60, 21)
	a, b := grown(t, 32, x), grown(t, 32, with(with(x, 13, h(1)), 20, h(2)))
	roots := []api.Hash{a.Root(), b.Root()}
	for n := range uint64(22) {
		before := check(t, a.Node, b.Node, n)
		ask(b.Node, plain, 21)
		ask(plain, a.Node, far)
		part.Most(n + 5)
		same(t, n, ask(a.Node, b.Node, n), before)
		turn := ask(b.Node, a.Node, n)
		if turn.Index != before.Index || turn.A != before.B || turn.B != before.A || turn.e != before.e || turn.Asked != before.Asked {
			t.Fatalf("First of %d is %v, %v, and with the two in turn %v, %v", n, before.Parting, before.e, turn.Parting, turn.e)
		}
	}
	if a.Root() != roots[0] || b.Root() != roots[1] || a.Size() != 21 || b.Size() != 21 {
		t.Error("First changed a tree")
	}
}

// asker is a source that asks First of others whenever it is asked.
type asker struct{ of, a, b *mmr.Tree }

func (s asker) Node(p uint64) (api.Hash, api.Errno) {
	part.First(s.a, s.b, 9)
	return s.of.Node(p)
}

// Rule R4: a call within a call counts for itself.
func TestCallWithinCall(t *testing.T) {
	x := hashes(80, 19)
	a, b := grown(t, 32, x), grown(t, 32, with(x, 6, h(3)))
	for n := range uint64(20) {
		want, e := part.First(a, b, n)
		if got, gotE := part.First(asker{a, b, a}, asker{b, a, b}, n); got != want || gotE != e {
			t.Fatalf("First of %d, with calls within, is %v, %v, want %v, %v", n, got, gotE, want, e)
		}
	}
}

// turner is a source that tells another hash each time.
type turner struct{ asked []uint64 }

func (s *turner) Node(p uint64) (api.Hash, api.Errno) {
	s.asked = append(s.asked, p)
	return h(uint64(len(s.asked))), api.OK
}

// Promise 21.1: one object may be both: it is asked twice for each place, and what it told first is a's.
func TestOneSourceForBoth(t *testing.T) {
	for n := uint64(1); n < 40; n++ {
		s := &turner{}
		got, e := part.First(s, s, n)
		high := int(peakSpots(n)[0].Height)
		want := api.Parting{A: h(uint64(2*high + 1)), B: h(uint64(2*high + 2)), Asked: high + 1}
		if got != want || e != api.OK || len(s.asked) != 2*want.Asked {
			t.Fatalf("First of %d and one source is %v, %v, asked %v, want %v", n, got, e, s.asked, want)
		}
		for k, p := range s.asked {
			if p != place(at(high-k/2, 0)) {
				t.Fatalf("First of %d and one source asked for %v", n, s.asked)
			}
		}
	}
}

// Promise 21.1: other sources than trees: a keep that is pruned refuses where the way leads to what lives no more. Of 23
// leaves the last one is a peak, and lives; beside a pinned leaf lives its sibling.
func TestPrunedKeeps(t *testing.T) {
	const n = 23
	x := hashes(20, n)
	for pin := range uint64(n) {
		k, e := keep.New(32, 3)
		if e != api.OK {
			t.Fatal(e)
		}
		for _, l := range x {
			k.Append(l)
		}
		if e := k.Pin(pin); e != api.OK {
			t.Fatal(e)
		}
		k.Prune()
		for i := range uint64(n) {
			b := grown(t, 32, with(x, int(i), h(9999)))
			got := check(t, k.Node, b.Node, n)
			check(t, b.Node, k.Node, n)
			want := api.ErrPruned
			if i == 22 || i == 20 && pin == 21 {
				want = api.OK
			}
			if got.e != want || got.e == api.OK && got.Index != i {
				t.Fatalf("First of a keep with %d pinned and a tree unlike at %d is %v, %v", pin, i, got.Parting, got.e)
			}
		}
	}
}
