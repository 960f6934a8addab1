package mmr_test

import (
	"slices"
	"testing"

	"massif/api"
	"massif/hash"
	"massif/mmr"
)

const (
	most = uint64(api.MaxLeaves)
	far  = ^uint64(0)
)

// h is a hash that is told by a number; it has bytes behind every width but the greatest.
func h(n int) api.Hash { return api.Hash{0: byte(n), 1: byte(n >> 8), 2: byte(n >> 16), 30: 7, 31: 1} }

// some are n hashes, from h(first) on.
func some(first, n int) []api.Hash {
	var l []api.Hash
	for i := range n {
		l = append(l, h(first+i))
	}
	return l
}

// plain is a forest as its leaves alone: all else is worked out anew whenever it is asked.
type plain struct {
	w      int
	leaves []api.Hash
}

// rows are the hashes of the nodes, by height and index.
func (m plain) rows() [][]api.Hash {
	rows := [][]api.Hash{m.leaves}
	for {
		low := rows[len(rows)-1]
		if len(low) < 2 {
			return rows
		}
		var row []api.Hash
		for k := 0; 2*k+1 < len(low); k++ {
			row = append(row, hash.Node(m.w, low[2*k], low[2*k+1]))
		}
		rows = append(rows, row)
	}
}

// nodes are the hashes of the nodes, in the order in which they are made.
func (m plain) nodes() []api.Hash {
	rows := m.rows()
	var l []api.Hash
	for i := range m.leaves {
		l = append(l, m.leaves[i])
		for height, k := 0, i; k%2 == 1; {
			height, k = height+1, k/2
			l = append(l, rows[height][k])
		}
	}
	return l
}

// peaks are the last ones of the rows in which the last one has no sibling, the highest first.
func (m plain) peaks() []api.Hash {
	var l []api.Hash
	for _, row := range slices.Backward(m.rows()) {
		if len(row)%2 == 1 {
			l = append(l, row[len(row)-1])
		}
	}
	return l
}

func (m plain) root() api.Hash {
	return hash.Root(m.w, uint64(len(m.leaves)), under(m.w, m.peaks()))
}

// under is the first peak and all behind it in one.
func under(w int, peaks []api.Hash) api.Hash {
	switch len(peaks) {
	case 0:
		return api.Hash{}
	case 1:
		return peaks[0]
	}
	return hash.Fold(w, peaks[0], under(w, peaks[1:]))
}

// first is the forest of the first n leaves.
func (m plain) first(n int) plain { return plain{m.w, m.leaves[:n]} }

// made is a tree of a width and log.
func made(t *testing.T, w, log int) *mmr.Tree {
	t.Helper()
	x, e := mmr.New(w, log)
	if e != api.OK || x == nil {
		t.Fatalf("New(%d, %d) is %v, %v", w, log, x, e)
	}
	return x
}

// grown is a tree with these leaves.
func grown(t *testing.T, w, log int, leaves []api.Hash) *mmr.Tree {
	t.Helper()
	x := made(t, w, log)
	for i, l := range leaves {
		if got := x.Append(l); got != uint64(i) {
			t.Fatalf("Append is %d, want %d", got, i)
		}
	}
	return x
}

// hold holds all that can be asked of a tree, changing nothing, against the plain forest.
func hold(t *testing.T, x *mmr.Tree, m plain, when string) {
	t.Helper()
	n, nodes := uint64(len(m.leaves)), m.nodes()
	if got := x.Size(); got != n {
		t.Fatalf("w %d, %s: Size is %d, want %d", m.w, when, got, n)
	}
	if got, want := x.Width(), min(max(m.w, 1), 32); got != want {
		t.Fatalf("w %d, %s: Width is %d", m.w, when, got)
	}
	if got := x.Peaks(); !slices.Equal(got, m.peaks()) {
		t.Fatalf("w %d, %s, size %d: Peaks are %x, want %x", m.w, when, n, got, m.peaks())
	}
	if got := x.Root(); got != m.root() {
		t.Fatalf("w %d, %s, size %d: Root is %x, want %x", m.w, when, n, got, m.root())
	}
	if got := x.Store().Len(); got != uint64(len(nodes)) {
		t.Fatalf("w %d, %s, size %d: the store has %d nodes, want %d", m.w, when, n, got, len(nodes))
	}
	for p, want := range nodes {
		if got, e := x.Node(uint64(p)); got != want || e != api.OK {
			t.Fatalf("w %d, %s, size %d: Node(%d) is %x, %v, want %x", m.w, when, n, p, got, e, want)
		}
	}
	for _, p := range []uint64{uint64(len(nodes)), uint64(len(nodes)) + 1, 1<<63 - 1, 1 << 63, far} {
		if got, e := x.Node(p); got != (api.Hash{}) || e != api.ErrPlace {
			t.Fatalf("w %d, %s, size %d: Node(%d) is %x, %v", m.w, when, n, p, got, e)
		}
	}
}

// holdOld holds Old of every size, and of those past it, against the plain forest.
func holdOld(t *testing.T, x *mmr.Tree, m plain) {
	t.Helper()
	n := uint64(len(m.leaves))
	for k := range n + 1 {
		if got, e := x.Old(k); got != m.first(int(k)).root() || e != api.OK {
			t.Fatalf("w %d, size %d: Old(%d) is %x, %v", m.w, n, k, got, e)
		}
	}
	if got, e := x.Old(n); got != x.Root() || e != api.OK {
		t.Fatalf("w %d, size %d: Old(Size) is %x, %v, not Root", m.w, n, got, e)
	}
	for _, k := range []uint64{n + 1, n + 2, 2*n + 1, most, most + 1, 1 << 63, far} {
		if got, e := x.Old(k); got != (api.Hash{}) || e != api.ErrSize {
			t.Fatalf("w %d, size %d: Old(%d) is %x, %v", m.w, n, k, got, e)
		}
	}
}

// dice are numbers that are drawn by a rule, the same in every run.
type dice uint64

func (d *dice) next(n uint64) uint64 {
	*d = *d*6364136223846793005 + 1442695040888963407
	return uint64(*d>>33) % n
}
