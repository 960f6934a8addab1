package image_test

import (
	"fmt"
	"testing"

	"massif/api"
	"massif/batch"
	"massif/image"
	"massif/keep"
)

// back saves a keep, loads that, and holds the two against each other, and their images.
func back(t *testing.T, when string, k *keep.Keep) *keep.Keep {
	t.Helper()
	b := image.Save(k)
	x, e, at := image.Load(b)
	if x == nil || e != api.OK || at != 0 {
		t.Fatalf("%s: Load(Save) is %v, %v, %d", when, x, e, at)
	}
	sameKeep(t, when, x, k)
	sameBytes(t, when, "Save of what was loaded", image.Save(x), b)
	return x
}

// Promise 16.3: keeps of every small number of leaves, of several widths and logs, with pins, pruned and not: there and
// back, and gone on with beside the one that was saved.
func TestBackSmall(t *testing.T) {
	for turn, k := range small(t, 20) {
		when := fmt.Sprintf("%d leaves of the width %d", k.Size(), k.Width())
		goOn(t, when, back(t, when, k), k, turn, 12)
	}
}

// Promise 16.3: every width and log.
func TestBackWidths(t *testing.T) {
	for w := -1; w < 35; w++ {
		for log := range 17 {
			k := pinned(t, w, log, 11, log%2 == 0, 2, 7)
			goOn(t, fmt.Sprintf("the width %d, the log %d", w, log), back(t, "any width", k), k, w+log+1, 4)
		}
	}
}

// Promise 16.3: after any call of a keep what was loaded goes on beside the one that was saved, call by call; half of the
// runs go on with what was loaded.
func TestBackGrown(t *testing.T) {
	for seed := range dice(30) {
		d := seed
		k := of(t, 1+int(d.roll(32)), int(d.roll(5)), int(d.roll(4)))
		twin := again(t, k)
		for step := range 25 {
			when := fmt.Sprintf("run %d, step %d", seed, step)
			x := back(t, when, k)
			sameKeep(t, when, x, twin)
			goOn(t, when, x, again(t, twin), int(d.roll(99)), 6)
			if seed%2 == 0 {
				k = back(t, when, k)
			}
			move(t, when, k, twin, &d)
		}
	}
}

// Promise 16.3: each set of leaves with pins, each with another number of them, pruned and not.
func TestBackEachSet(t *testing.T) {
	for n := range 8 {
		for set := range 1 << n {
			k := of(t, 32, set%4, n)
			for i := range n {
				for range (set >> i & 1) * (1 + (set+i)%3) {
					k.Pin(uint64(i))
				}
			}
			when := fmt.Sprintf("%d leaves, the set %b pinned", n, set)
			for range 2 {
				x := back(t, when, k)
				goOn(t, when, x, again(t, k), set, 5)
				k.Prune()
			}
		}
	}
}

// Promise 16.3: nodes that were installed, as leaves make them.
func TestBackInstalled(t *testing.T) {
	for n := range 12 {
		for more := range 9 {
			k := of(t, 3, 2, n)
			same(t, "installed", "Install", k.Install(made(k, leaves(90, more)), uint64(more)), api.OK)
			goOn(t, "installed", back(t, "installed", k), k, n*more, 5)
		}
	}
}

// Promise 16.2: nodes that were installed and are not what their kids make are refused with From's place: Install takes
// them as they are, From does not. Where no kids live that show it they are not refused.
func TestBackInstalledWrong(t *testing.T) {
	k := of(t, 32, 2, 1)
	same(t, "installed", "Install", k.Install(leaves(5, 2), 1), api.OK)
	refused(t, "installed, and wrong", image.Save(k), api.ErrNode, 2)
	k.Append(leaf(9))
	refused(t, "installed, and wrong", image.Save(k), api.ErrNode, 2)
	k.Prune()
	goOn(t, "installed, wrong, and pruned", back(t, "installed, wrong, and pruned", k), k, 7, 9)
}

// Promise 16.3: sizes of which no memory has all nodes, up to MaxLeaves, with pins from 1 to 2^30.
func TestBackGreat(t *testing.T) {
	for turn, n := range great() {
		for log := 0; log <= 16; log += 8 {
			for _, pins := range [][]uint64{nil, {0}, {0, n / 3, n/3 + 1, n - 2, n - 1}} {
				k := thin(t, 32, log, n, pins...)
				when := fmt.Sprintf("%d leaves, %v pinned", n, pins)
				goOn(t, when, back(t, when, k), k, turn, 9)
			}
		}
	}
}

// Promise 16.3: many nodes, and many leaves with pins.
func TestBackMany(t *testing.T) {
	k := of(t, 32, 6, 5000)
	for i := range uint64(5000) {
		for range i % 3 {
			k.Pin(i)
		}
	}
	checkSave(t, "many", k)
	b := image.Save(k)
	x := loaded(t, "many", b)
	same(t, "many", "Root", x.Root(), k.Root())
	same(t, "many", "Chunks", x.Chunks(), k.Chunks())
	for i := range uint64(5000) {
		if i%5 > 0 {
			for range i % 3 {
				same(t, "many", "Unpin", x.Unpin(i), k.Unpin(i))
			}
		}
	}
	same(t, "many", "Prune", x.Prune(), k.Prune())
	sameBytes(t, "many", "Save", image.Save(x), image.Save(k))
	back(t, "many, pruned", k)
}

// Promise 16.3: what was loaded carries batches as the one that was saved does.
func TestBackCarriesBatches(t *testing.T) {
	for n := range 12 {
		k := pinned(t, 32, 2, n, true)
		x := back(t, "ahead of a batch", k)
		f, _ := batch.New(k, 2)
		g, _ := batch.New(x, 3)
		for turn := range 3 {
			_, _, e := f.Append(leaves(uint64(100*turn), 7+turn), turn-1)
			_, _, want := g.Append(leaves(uint64(100*turn), 7+turn), turn-1)
			same(t, "a batch", "Append", e, want)
			sameKeep(t, "behind a batch", x, k)
			sameBytes(t, "behind a batch", "Save", image.Save(x), image.Save(k))
		}
	}
}
