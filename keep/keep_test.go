package keep_test

import (
	"fmt"
	"testing"

	"massif/api"
	"massif/hash"
	"massif/keep"
	"massif/mmr"
)

// The examples of the chapter.
func TestExamples(t *testing.T) {
	k, m := of(t, 32, 3, 0, 7)
	hold(t, "7 leaves", k, m)
	sameList(t, "7 leaves", "Live", k.Live(), []uint64{0, 1, 2, 3, 4, 5, 6, 7, 8, 9, 10})
	same(t, "7 leaves", "Pin(1)", k.Pin(1), api.OK)
	same(t, "one pin", "Prune", k.Prune(), 6)
	sameList(t, "pruned", "Live", k.Live(), []uint64{0, 5, 6, 9, 10})
	for i, want := range map[uint64]api.Errno{1: api.OK, 0: api.ErrPruned, 6: api.OK} {
		_, e := k.Prove(i)
		same(t, "pruned", fmt.Sprintf("Prove(%d)", i), e, want)
	}
	same(t, "pruned", "Pin(2)", k.Pin(2), api.ErrPruned)
	for m, want := range map[uint64]api.Errno{4: api.OK, 3: api.ErrPruned} {
		_, e := k.ProvePrefix(m)
		same(t, "pruned", fmt.Sprintf("ProvePrefix(%d)", m), e, want)
	}
	same(t, "pruned", "Unpin(1)", k.Unpin(1), api.OK)
	same(t, "no pin", "Unpin(1)", k.Unpin(1), api.ErrPin)
	same(t, "no pin", "Prune", k.Prune(), 2)
	sameList(t, "pruned again", "Live", k.Live(), []uint64{6, 9, 10})
}

// Promise 11.1: which logs New takes, whatever the width is; which width counts as which.
func TestNew(t *testing.T) {
	for _, w := range []int{-1 << 40, -1, 0, 1, 2, 31, 32, 33, 1 << 40} {
		for log := range api.MaxLog + 1 {
			hold(t, fmt.Sprintf("New(%d, %d)", w, log), fresh(t, w, log), empty(w, log))
		}
		for _, log := range []int{-1 << 40, -2, -1, 17, 18, 1 << 40} {
			if k, e := keep.New(w, log); k != nil || e != api.ErrArg {
				t.Errorf("New(%d, %d) is %v, %v", w, log, k, e)
			}
		}
	}
}

// Promise 11.1: of any width and log a keep is a tree: all that can be asked, behind each leaf.
func TestGrown(t *testing.T) {
	for _, c := range [][2]int{{-3, 0}, {0, 16}, {1, 1}, {2, 2}, {31, 3}, {32, 6}, {33, 4}} {
		k, m := fresh(t, c[0], c[1]), empty(c[0], c[1])
		for n := range uint64(40) {
			hold(t, fmt.Sprintf("w %d, log %d, %d leaves", c[0], c[1], n), k, m)
			same(t, "grown", "Append", k.Append(h(n)), m.append(h(n)))
		}
	}
}

// Promise 11.1: Add is Append of the hash of a leaf.
func TestAdd(t *testing.T) {
	for _, w := range []int{0, 1, 32, 40} {
		k, m := fresh(t, w, 2), empty(w, 2)
		for n := range uint64(70) {
			data := make([]byte, n*3)
			for i := range data {
				data[i] = byte(n)
			}
			if n == 3 {
				data = nil
			}
			same(t, "added", "Add", k.Add(data), m.append(hash.Leaf(w, data)))
		}
		hold(t, fmt.Sprintf("added, w %d", w), k, m)
	}
}

// Promise 11.1: Install is chapter 6's: nodes as they are, the same errors in the same order, nothing changed beside one.
func TestInstall(t *testing.T) {
	for n := range 9 {
		for more := range 9 {
			for _, pruned := range []bool{false, true} {
				k, m := of(t, 2, 1, 5, n)
				if n > 2 {
					k.Pin(2)
					m.pin(2)
				}
				if pruned {
					same(t, "ahead of Install", "Prune", k.Prune(), m.prune())
				}
				when := fmt.Sprintf("%d leaves more behind %d, pruned: %v", more, n, pruned)
				nodes := m.next(hashes(90, more))
				checkInstallRefused(t, when, k, nodes, uint64(more))
				hold(t, "Install refused, "+when, k, m)
				same(t, when, "Install", k.Install(nodes, uint64(more)), api.OK)
				for _, l := range hashes(90, more) {
					m.append(l)
				}
				hold(t, when, k, m)
			}
		}
	}
}

func checkInstallRefused(t *testing.T, when string, k *keep.Keep, nodes []api.Hash, n uint64) {
	t.Helper()
	room := most - k.Size()
	for _, n := range []uint64{room + 1, room + 2, 1 << 63, far, -k.Size() - 1} {
		same(t, when, fmt.Sprintf("Install of %d leaves", n), k.Install(nodes, n), api.ErrSize)
	}
	same(t, when, "Install of a node more", k.Install(append(nodes[:len(nodes):len(nodes)], h(1)), n), api.ErrCount)
	same(t, when, "Install of no node", k.Install(nil, n+1), api.ErrCount)
	same(t, when, "Install of the last leaf", k.Install(nodes, room), api.ErrCount)
}

// Promise 11.1: nodes that their kids do not make are installed as they are, and are grown upon.
func TestInstallAsTheyAre(t *testing.T) {
	k, nodes := fresh(t, 32, 0), hashes(70, 4)
	same(t, "installed", "Install", k.Install(nodes, 3), api.OK)
	sameList(t, "installed", "Peaks", k.Peaks(), nodes[2:])
	k.Append(h(9))
	sameList(t, "installed", "Peaks", k.Peaks(), []api.Hash{hash.Node(32, nodes[2], hash.Node(32, nodes[3], h(9)))})
}

// Promise 11.1: a keep answers what chapter 6's tree answers, with which it has its calls in common.
func TestLikeATree(t *testing.T) {
	for _, w := range []int{1, 5, 32} {
		k := fresh(t, w, 2)
		tree, e := mmr.New(w, 2)
		if e != api.OK {
			t.Fatal(e)
		}
		for n := range uint64(50) {
			when := fmt.Sprintf("w %d, %d leaves", w, n)
			same(t, when, "Size", k.Size(), tree.Size())
			same(t, when, "Width", k.Width(), tree.Width())
			same(t, when, "Root", k.Root(), tree.Root())
			same(t, when, "Chunks", k.Chunks(), tree.Store().Chunks())
			sameList(t, when, "Peaks", k.Peaks(), tree.Peaks())
			for p := range 2*n + 2 {
				want, wantE := tree.Node(p)
				if got, e := k.Node(p); got != want || e != wantE {
					t.Fatalf("%s: Node(%d) is %x, %v, want %x, %v", when, p, got, e, want, wantE)
				}
			}
			same(t, when, "Add", k.Add([]byte{byte(n)}), tree.Add([]byte{byte(n)}))
		}
	}
}

// Promise 11.1: hashes are taken as they are, whatever bytes they have behind the width.
func TestLeavesAsTheyAre(t *testing.T) {
	k := fresh(t, 1, 0)
	k.Append(h(300))
	if got, e := k.Node(0); got != h(300) || e != api.OK {
		t.Errorf("Node(0) is %x, %v", got, e)
	}
}
