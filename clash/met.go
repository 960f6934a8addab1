package clash

import (
	"bytes"
	"math/bits"
	"slices"

	"massif/api"
	"massif/hash"
	"massif/pos"
	"massif/proof"
	"massif/verify"
)

// met is all texts that were hashed on the way to some roots, by their hashes. If no two of them clashed, each hash
// would lead down to one text, and so one root to the same peaks, and one peak to the same nodes and leaves under it:
// what leads to one root by unlike ways has a clash among its texts.
type met struct {
	width int
	texts map[api.Hash][]byte
	clash api.Clash // the last one of all
	found bool
}

// meet is one that has met nothing.
func meet(w int) *met { return &met{width: w, texts: make(map[api.Hash][]byte)} }

// take meets a text, and answers its hash. The text is kept: it must be new.
func (m *met) take(text []byte) api.Hash {
	h := hash.Sum(m.width, text)
	first, ok := m.texts[h]
	if !ok {
		m.texts[h] = text
	} else if !bytes.Equal(first, text) {
		m.clash, m.found = api.Clash{A: first, B: text}, true
	}
	return h
}

// bag meets what is hashed for the root over the peaks of n leaves.
func (m *met) bag(n uint64, peaks []api.Hash) {
	var acc api.Hash
	for k, h := range slices.Backward(peaks) {
		if k == len(peaks)-1 {
			acc = h
		} else {
			acc = m.take(hash.FoldText(h, acc))
		}
	}
	m.take(hash.RootText(n, acc))
}

// member meets what is hashed where a leaf is accepted by b: on its way up, and over the peaks.
func (m *met) member(leaf api.Hash, b []byte) {
	p, _ := proof.Decode(b)
	path, _ := pos.Path(p.Index, p.Size)
	held := leaf
	for k, sibling := range path {
		if pos.Right(sibling) {
			held = m.take(hash.NodeText(held, p.Nodes[k]))
		} else {
			held = m.take(hash.NodeText(p.Nodes[k], held))
		}
	}
	peaks, _ := verify.Climb(m.width, leaf, p)
	m.bag(p.Size, peaks)
}

// prefix meets what is hashed where a head is accepted as a prefix by b: over the peaks of both sizes, and between.
func (m *met) prefix(b []byte) {
	p, _ := proof.DecodePrefix(b)
	places, _ := proof.PrefixPlaces(p.From, p.Size)
	var peaks []api.Hash // of what lies ahead of the node whose turn it is
	for k, at := range places {
		held := p.Nodes[k]
		for ; pos.Right(at); at++ { // the last peak is its sibling, and its parent's place the next one
			last := len(peaks) - 1
			held = m.take(hash.NodeText(peaks[last], held))
			peaks = peaks[:last]
		}
		peaks = append(peaks, held)
	}
	m.bag(p.From, p.Nodes[:bits.OnesCount64(p.From)])
	m.bag(p.Size, peaks)
}
