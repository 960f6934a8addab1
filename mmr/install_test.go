package mmr_test

import (
	"slices"
	"testing"

	"massif/api"
	"massif/mmr"
)

// piece is the nodes that the leaves from n to n + k - 1 make.
func piece(m plain, n, k int) []api.Hash {
	return m.first(n + k).nodes()[len(m.first(n).nodes()):]
}

// Promises 6.5 and 6.8: Install of what leaves make leaves what Append of them leaves, from each size on.
func TestInstall(t *testing.T) {
	m := plain{3, some(0, 70)}
	for n := range 34 {
		for k := range 36 {
			x := grown(t, 3, 2, m.leaves[:n])
			if e := x.Install(piece(m, n, k), uint64(k)); e != api.OK {
				t.Fatalf("Install of %d leaves at %d is %v", k, n, e)
			}
			hold(t, x, m.first(n+k), "behind Install")
			if got := x.Append(m.leaves[n+k]); got != uint64(n+k) {
				t.Fatalf("Append behind Install is %d", got)
			}
			hold(t, x, m.first(n+k+1), "behind Install and Append")
		}
	}
}

// Promises 6.5, 6.8 and 6.9: pieces that are drawn, by turns with Append.
func TestInstallPieces(t *testing.T) {
	for _, w := range []int{1, 32} {
		m := plain{w, some(7, 400)}
		for seed := range dice(6) {
			d := seed
			x := made(t, w, int(seed))
			for n := 0; n < len(m.leaves); {
				k := min(int(d.next(40)), len(m.leaves)-n)
				if d.next(3) == 0 {
					k = 1
					x.Append(m.leaves[n])
				} else if e := x.Install(piece(m, n, k), uint64(k)); e != api.OK {
					t.Fatalf("Install of %d leaves at %d is %v", k, n, e)
				}
				n += k
				if x.Size() != uint64(n) || x.Root() != m.first(n).root() {
					t.Fatalf("w %d: Size is %d, want %d, or the root is another one", w, x.Size(), n)
				}
			}
			hold(t, x, m, "behind pieces")
			holdOld(t, x, m)
		}
	}
}

// Promise 6.5 and rule R2: any other number of nodes is refused, and leaves the tree as it was.
func TestInstallCount(t *testing.T) {
	m := plain{32, some(0, 40)}
	for n := range 12 {
		x := grown(t, 32, 2, m.leaves[:n])
		for k := range 20 {
			want := len(piece(m, n, k))
			for count := range want + 4 {
				if count == want {
					continue
				}
				if e := x.Install(some(0, count), uint64(k)); e != api.ErrCount {
					t.Fatalf("Install of %d nodes for %d leaves at %d is %v", count, k, n, e)
				}
			}
		}
		hold(t, x, m.first(n), "behind Install that was refused")
		holdOld(t, x, m.first(n))
	}
}

// Promise 6.5: no leaf more makes no node.
func TestInstallOfNone(t *testing.T) {
	for n := range 9 {
		m := plain{32, some(0, n)}
		x := grown(t, 32, 2, m.leaves)
		for _, none := range [][]api.Hash{nil, {}} {
			if e := x.Install(none, 0); e != api.OK {
				t.Errorf("Install of nothing at %d is %v", n, e)
			}
		}
		if e := x.Install(some(0, 1), 0); e != api.ErrCount {
			t.Errorf("Install of a node for no leaf at %d is %v", n, e)
		}
		hold(t, x, m, "behind Install of nothing")
	}
}

// Promise 6.5 and rule R2: a size above MaxLeaves is told ahead of a wrong number of nodes; MaxLeaves itself is a size,
// and sums do not wrap round.
func TestInstallSize(t *testing.T) {
	for n := range 6 {
		m := plain{32, some(0, n)}
		x := grown(t, 32, 2, m.leaves)
		room := most - uint64(n)
		for _, nodes := range [][]api.Hash{nil, some(0, 1), some(0, 63), some(0, 200)} {
			for _, k := range []uint64{room + 1, room + 2, most + 1, 2 * most, 1 << 63, -uint64(n) - 1, -uint64(n), 1 - uint64(n), far - 1, far} {
				if k > room && x.Install(nodes, k) != api.ErrSize {
					t.Errorf("Install of %d nodes for %d leaves at %d is not ErrSize", len(nodes), k, n)
				}
			}
			for _, k := range []uint64{room, room - 1, 1 << 40} {
				if e := x.Install(nodes, k); e != api.ErrCount {
					t.Errorf("Install of %d nodes for %d leaves at %d is %v", len(nodes), k, n, e)
				}
			}
		}
		hold(t, x, m, "behind Install that was refused")
	}
}

// Promise 6.5: at the end of all leaves.
func TestInstallLast(t *testing.T) {
	x := full(t, most-1)
	for _, c := range []struct {
		nodes int
		k     uint64
		want  api.Errno
	}{
		{63, 2, api.ErrSize}, {63, far, api.ErrSize}, {63, most, api.ErrSize},
		{62, 1, api.ErrCount}, {64, 1, api.ErrCount}, {0, 1, api.ErrCount},
		{0, 0, api.OK},
		{63, 1, api.OK},
		{63, 1, api.ErrSize}, {0, 1, api.ErrSize}, {0, far, api.ErrSize},
		{1, 0, api.ErrCount}, {0, 0, api.OK},
	} {
		if e := x.Install(some(0, c.nodes), c.k); e != c.want {
			t.Fatalf("Install of %d nodes for %d leaves at %d is %v, want %v", c.nodes, c.k, x.Size(), e, c.want)
		}
	}
	if x.Size() != most || x.Store().Len() != 63 {
		t.Errorf("Size is %d, with %d nodes", x.Size(), x.Store().Len())
	}
}

// Promise 6.5: nodes are taken as they are, even those that their kids do not make.
func TestInstallAsTheyAre(t *testing.T) {
	x := made(t, 1, 2)
	nodes := some(50, 11)
	if e := x.Install(nodes, 7); e != api.OK {
		t.Fatal(e)
	}
	for p, want := range nodes {
		if got, e := x.Node(uint64(p)); got != want || e != api.OK {
			t.Errorf("Node(%d) is %x, %v", p, got, e)
		}
	}
	peaks := []api.Hash{nodes[6], nodes[9], nodes[10]}
	if !slices.Equal(x.Peaks(), peaks) {
		t.Errorf("Peaks are %x", x.Peaks())
	}
	if want, _ := mmr.Bag(1, 7, peaks); x.Root() != want {
		t.Error("Root is not the one of these peaks")
	}
}

// Rule R3: the nodes are not changed and not kept, nor is what lies behind them.
func TestInstallKeepsNoList(t *testing.T) {
	m := plain{32, some(0, 6)}
	nodes := m.nodes()
	room := append(slices.Clone(nodes), some(300, 20)...)
	was := slices.Clone(room)
	x := made(t, 32, 1)
	if e := x.Install(room[:len(nodes)], 6); e != api.OK || !slices.Equal(room, was) {
		t.Fatalf("Install is %v, or changed what was handed in", e)
	}
	clear(room)
	hold(t, x, m, "behind a change of the list")
	x.Append(h(77))
	if !slices.Equal(room, make([]api.Hash, len(room))) {
		t.Error("the list changes with the tree")
	}
}
