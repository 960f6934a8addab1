package mmr_test

import (
	"slices"
	"testing"

	"massif/api"
	"massif/mmr"
)

// Bare is a tree of which no node lives; once its peaks are brought back it goes on like one that was swept.
func TestBare(t *testing.T) {
	for n := range 40 {
		m := plain{2, some(0, n)}
		nodes := m.nodes()
		x, e := mmr.Bare(2, 3, uint64(n))
		if e != api.OK || x.Size() != uint64(n) || x.Width() != 2 || x.Store().Alive() != 0 || x.Store().Len() != uint64(len(nodes)) {
			t.Fatalf("Bare of %d leaves is %v, %v", n, x, e)
		}
		for p := range nodes {
			if _, e := x.Node(uint64(p)); e != api.ErrPruned {
				t.Fatalf("Bare of %d leaves: Node(%d) is %v", n, p, e)
			}
		}
		for _, p := range peakPlaces(n) {
			if e := x.Store().Back(p, nodes[p]); e != api.OK {
				t.Fatalf("Bare of %d leaves: Back(%d) is %v", n, p, e)
			}
		}
		for k := range 9 {
			if x.Size() != uint64(n+k) || x.Root() != m.root() || !slices.Equal(x.Peaks(), m.peaks()) {
				t.Fatalf("Bare of %d leaves, grown by %d: another root", n, k)
			}
			x.Append(h(n + k))
			m.leaves = append(m.leaves, h(n+k))
		}
	}
}

// Bare of more leaves than memory has, up to the last one; of wrong logs and sizes, the log's error first.
func TestBareOfMany(t *testing.T) {
	for _, n := range []uint64{1 << 40, most - 1, most} {
		x, e := mmr.Bare(32, 16, n)
		if e != api.OK || x.Size() != n || x.Store().Alive() != 0 {
			t.Fatalf("Bare of %d leaves is %v, %v", n, x, e)
		}
	}
	for _, n := range []uint64{0, 1, most, most + 1, far} {
		for _, log := range []int{-1, 17, 1 << 40} {
			if x, e := mmr.Bare(32, log, n); x != nil || e != api.ErrArg {
				t.Errorf("Bare(32, %d, %d) is %v, %v", log, n, x, e)
			}
		}
	}
	for _, n := range []uint64{most + 1, 1<<63 - 1, 1 << 63, far} {
		if x, e := mmr.Bare(32, 0, n); x != nil || e != api.ErrSize {
			t.Errorf("Bare(32, 0, %d) is %v, %v", n, x, e)
		}
	}
}
