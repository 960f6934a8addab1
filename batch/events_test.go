package batch_test

import (
	"bytes"
	"fmt"
	"slices"
	"testing"

	"massif/api"
	"massif/batch"
	"massif/carry"
	"massif/keep"
	"massif/proof"
)

// whole has a batch appended, one time by Append and one time by Play, and is its events.
func whole(t *testing.T, f *batch.Forest, l []api.Hash, turn int) []api.Event {
	t.Helper()
	c := call{leaves: l, stop: -1, play: turn%2 == 1, cancel: -1, picks: []int{turn, 3, 5, 1}}
	got := c.ask(f)
	same(t, c.String(), "the outcome", got.outcome, api.Whole)
	same(t, c.String(), "the error", got.e, api.OK)
	return got.events
}

// Promise 15.3: the events, heard by who holds a leaf and its proof: after all of a batch it is the proof that the keep
// makes (chapter 12).
func TestEventsAreCarried(t *testing.T) {
	for n := range 14 {
		for k := range 14 {
			x := of(t, 32, 2, n)
			f := over(t, x, 2)
			var carries []*carry.Carry
			for i := range uint64(n) {
				p, _ := x.Prove(i)
				c, e := carry.New(32, leaf(int(i)), p)
				same(t, "carry", "New", e, api.OK)
				carries = append(carries, c)
			}
			for turn := range 2 {
				for _, ev := range whole(t, f, leaves(n+turn*k, k), turn) {
					for _, c := range carries {
						same(t, fmt.Sprint(n, k), "On", c.On(ev), api.OK)
					}
				}
				for i, c := range carries {
					want, e := x.Prove(uint64(i))
					if got := c.Proof(); e != api.OK || got.Size != want.Size || got.Index != want.Index || !slices.Equal(got.Nodes, want.Nodes) {
						t.Fatalf("%d behind %d: the proof of %d is %v, want %v", k, n, i, got, want)
					}
					same(t, fmt.Sprint(n, k), "Root", c.Root(), x.Root())
				}
			}
		}
	}
}

// Promise 15.3: the events, heard by a flock that holds each new leaf: it has the keep's peaks and proofs, also where the
// keep is pruned between the batches.
func TestEventsForAFlock(t *testing.T) {
	for seed := range dice(30) {
		d := seed
		x := of(t, 32, 2, d.roll(12))
		fl, e := carry.NewFlock(32, x.Size(), x.Peaks())
		same(t, "flock", "NewFlock", e, api.OK)
		f := over(t, x, 3)
		for turn := range 10 {
			for _, ev := range d.call(100*turn, 9).ask(f).events {
				same(t, "flock", "On", fl.On(ev, d.roll(3) == 0), api.OK)
			}
			same(t, "flock", "Size", fl.Size(), x.Size())
			same(t, "flock", "Root", fl.Root(), x.Root())
			sameList(t, "flock", "Peaks", fl.Peaks(), x.Peaks())
			holdFlock(t, fl, x)
			if turn%4 == 3 {
				x.Prune()
			}
		}
	}
}

// holdFlock holds a flock's proofs against those that the keep can make.
func holdFlock(t *testing.T, fl *carry.Flock, x *keep.Keep) {
	t.Helper()
	for _, i := range fl.Held() {
		want, e := x.Prove(i)
		if e != api.OK {
			continue
		}
		got, _ := fl.Proof(i)
		a, _ := proof.Encode(got)
		b, _ := proof.Encode(want)
		if !bytes.Equal(a, b) {
			t.Fatalf("the flock's proof of %d is %v, want %v", i, got, want)
		}
	}
}

// Promise 15.3: each event has a form in bytes, and is read back.
func TestEventsInBytes(t *testing.T) {
	for _, n := range []uint64{0, 1, 5, 1<<40 - 3, most - 9} {
		for turn := range 2 {
			events := whole(t, over(t, great(t, 32, n), 2), leaves(0, 9), turn)
			for _, ev := range events {
				b, e := carry.EncodeEvent(ev)
				same(t, "bytes", "EncodeEvent", e, api.OK)
				got, e := carry.DecodeEvent(b)
				same(t, "bytes", "DecodeEvent", e, api.OK)
				sameEvents(t, "bytes", []api.Event{got}, []api.Event{ev})
			}
		}
	}
}
