package hash

import (
	"massif/api"
	"massif/num"
)

// What a text is of, in its first byte.
const (
	ofLeaf = iota
	ofNode
	ofFold
	ofRoot
)

// LeafText is what is hashed for a leaf.
func LeafText(data []byte) []byte { return text(ofLeaf, data) }

// NodeText is what is hashed for a node with the kids l and r.
func NodeText(l, r api.Hash) []byte { return text(ofNode, l[:], r[:]) }

// FoldText is what is hashed where two peaks are bagged.
func FoldText(l, r api.Hash) []byte { return text(ofFold, l[:], r[:]) }

// RootText is what is hashed for the root of n leaves.
func RootText(n uint64, acc api.Hash) []byte { return text(ofRoot, inEight(n), acc[:]) }

// Leaf is the hash of LeafText.
func Leaf(w int, data []byte) api.Hash { return Sum(w, LeafText(data)) }

// Node is the hash of NodeText.
func Node(w int, l, r api.Hash) api.Hash { return Sum(w, NodeText(l, r)) }

// Fold is the hash of FoldText.
func Fold(w int, l, r api.Hash) api.Hash { return Sum(w, FoldText(l, r)) }

// Root is the hash of RootText.
func Root(w int, n uint64, acc api.Hash) api.Hash { return Sum(w, RootText(n, acc)) }

func text(of byte, parts ...[]byte) []byte {
	long := 1
	for _, p := range parts {
		long += len(p)
	}
	b := append(make([]byte, 0, long), of)
	for _, p := range parts {
		b = append(b, p...)
	}
	return b
}

// inEight is n in eight bytes, the highest first: no number is refused there.
func inEight(n uint64) []byte {
	b, _ := num.Big(n, 8)
	return b
}
