package image_test

import (
	"bytes"
	"fmt"
	"slices"
	"testing"

	"massif/api"
	"massif/hash"
	"massif/image"
	"massif/pos"
)

// family is a living node both kids of which live: the places of all three in the list of what lives.
type family struct{ up, left, right int }

// families are all of them, by the words of 16.4, rising.
func families(x parts) []family {
	var l []family
	for j, p := range x.places {
		a, b, ok := pos.Kids(p)
		left, okL := slices.BinarySearch(x.places, a)
		right, okR := slices.BinarySearch(x.places, b)
		if ok && okL && okR {
			l = append(l, family{j, left, right})
		}
	}
	return l
}

// fitsNot is the first family whose parent is not what its kids make, told by the parent's place in the list.
func fitsNot(x parts) (int, bool) {
	for _, f := range families(x) {
		if hash.Node(x.width, x.nodes[f.left], x.nodes[f.right]) != x.nodes[f.up] {
			return f.up, true
		}
	}
	return 0, false
}

// holdsClash tells whether x and y, of which a bit is turned in y's node at j, show two unlike texts with one hash.
func holdsClash(x, y parts, j int) bool {
	for _, f := range families(x) {
		if f.left != j && f.right != j {
			continue
		}
		a, b := hash.NodeText(x.nodes[f.left], x.nodes[f.right]), hash.NodeText(y.nodes[f.left], y.nodes[f.right])
		if !bytes.Equal(a, b) && hash.Sum(x.width, a) == hash.Sum(x.width, b) {
			return true
		}
	}
	return false
}

// Promise 16.4: every bit of every living node of small keeps, turned: one of a family is refused with ErrNode, at the
// parent, or two unlike texts have one hash; each other one is loaded as it is.
func TestTurnedNodes(t *testing.T) {
	met, clashes := 0, 0
	for turn, k := range small(t, 12) {
		x := partsOf(k)
		for j := range x.places {
			inFamily := slices.ContainsFunc(families(x), func(f family) bool { return f.up == j || f.left == j || f.right == j })
			for bit := turn % 3; bit < 256; bit += 3 {
				y := x.turned(j, bit)
				b := joined(pieces(y))
				when := fmt.Sprintf("the bit %d of the node %d of %v", bit, j, x.places)
				at, wrong := fitsNot(y)
				switch {
				case wrong:
					refused(t, when, b, api.ErrNode, at)
					met++
				case inFamily && !holdsClash(x, y, j):
					t.Fatalf("%s: not refused, and no clash is told", when)
				case inFamily:
					clashes++
					loaded(t, when, b)
				default:
					loaded(t, when, b)
				}
			}
		}
	}
	if met < 1000 || clashes < 3 {
		t.Errorf("%d nodes were refused, and %d led to clashes", met, clashes)
	}
}

// Promise 16.4: with the width 32 none that is in a family is taken, by whichever of its bits it is wrong.
func TestTurnedNodesOfFullWidth(t *testing.T) {
	x := partsOf(of(t, 32, 1, 7))
	b := image.Save(of(t, 32, 1, 7))
	for j, at := range []int{2, 2, 2, 5, 5, 5, 6, 9, 9, 9, -1} {
		for bit := range 256 {
			c := slices.Clone(b)
			c[5+33*j+1+bit/8] ^= 1 << (bit % 8)
			sameBytes(t, "turned", "the image", c, joined(pieces(x.turned(j, bit))))
			if at < 0 {
				loaded(t, "a peak that is a leaf", c)
			} else {
				refused(t, "one of a family", c, api.ErrNode, at)
			}
		}
	}
}
