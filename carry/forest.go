package carry

import (
	"slices"

	"massif/api"
	"massif/hash"
	"massif/mmr"
	"massif/num"
	"massif/pos"
)

// forest is what is known of a forest by who hears its events. Of a held leaf just the path to its peak must be kept
// beside: the rest of its proof are the other peaks.
type forest struct {
	width int
	size  uint64
	peaks []api.Hash // from the left
}

// refuse says why an event is not that of the next append.
func (f *forest) refuse(ev api.Event) api.Errno {
	switch {
	case ev.Size != f.size:
		return api.ErrLate
	case f.size == api.MaxLeaves:
		return api.ErrFull
	case !slices.Equal(ev.Peaks, f.peaks):
		return api.ErrPeaks
	}
	return api.OK
}

// grow appends a leaf, where there is room for it.
func (f *forest) grow(leaf api.Hash) merge {
	// The new leaf is merged with the peaks of the set bits at the end of size, as a carry runs through them.
	stay := len(f.peaks) - num.Low(^f.size)
	m := merge{left: slices.Clone(f.peaks[stay:]), made: []api.Hash{leaf}}
	slices.Reverse(m.left)
	for h, l := range m.left {
		m.made = append(m.made, hash.Node(f.width, l, m.made[h]))
	}
	f.peaks = append(f.peaks[:stay], m.made[len(m.left)])
	f.size++
	return m
}

// proof is that of the leaf i, whose siblings on the way to its peak are path.
func (f *forest) proof(i uint64, path []api.Hash) api.Proof {
	over, _ := pos.Peak(i, f.size)
	nodes := slices.Clone(path)
	for k, h := range f.peaks {
		if k != over {
			nodes = append(nodes, h)
		}
	}
	return api.Proof{Size: f.size, Index: i, Nodes: nodes}
}

// root is the one over all peaks.
func (f *forest) root() api.Hash {
	h, _ := mmr.Bag(f.width, f.size, f.peaks) // there are as many peaks as it asks for
	return h
}

// merge is what an append puts together, by heights: at each of them the peak on the left and what was made on the right
// have the next one of made as their parent. The last of made is the new peak.
type merge struct {
	left []api.Hash // the peaks that are peaks no more
	made []api.Hash // the new leaf, and the nodes over it
}

// lengthen is the path of a leaf behind the append. A path is as long as the leaf's peak is high: that tells which of the
// merged peaks, if any, stands over the leaf.
func (m merge) lengthen(path []api.Hash) []api.Hash {
	h := len(path)
	if h >= len(m.left) {
		return path
	}
	path = append(path, m.made[h])
	return append(path, m.left[h+1:]...)
}
