package span

import (
	"massif/api"
	"massif/clash"
	"massif/hash"
	"massif/pos"
)

// climb works the peaks of n leaves out, from the left: leaf hands out what each leaf of the span is, node what each node
// is that it needs, both from the left; join makes of two kids what is over them.
func climb[T any](from, to, n uint64, leaf, node func() T, join func(l, r T) T) []T {
	var up func(p uint64) T
	up = func(p uint64) T {
		if apart(p, from, to) {
			return node()
		}
		left, right, ok := pos.Kids(p)
		if !ok {
			return leaf()
		}
		l := up(left) // ahead of the right one: what is handed out stands from the left
		return join(l, up(right))
	}
	var peaks []T
	for _, p := range pos.Peaks(n) {
		peaks = append(peaks, up(p))
	}
	return peaks
}

// inTurn hands a list out, one by one.
func inTurn(l []api.Hash) func() api.Hash {
	next := -1
	return func() api.Hash {
		next++
		return l[next]
	}
}

// peaks are those that follow from leaves and a proof that is whole, of as many leaves.
func peaks(w int, leaves []api.Hash, p api.Reach) []api.Hash {
	join := func(l, r api.Hash) api.Hash { return hash.Node(w, l, r) }
	return climb(p.From, p.To, p.Size, inTurn(leaves), inTurn(p.Nodes), join)
}

// pair is what stands at one place on two ways up.
type pair struct{ x, y api.Hash }

// sideBySide hands two lists out, together.
func sideBySide(x, y []api.Hash) func() pair {
	ofX, ofY := inTurn(x), inTurn(y)
	return func() pair { return pair{ofX(), ofY()} }
}

// parted is a clash from two unlike lists of leaves of one span, and proofs of them that lead to one root. Over a leaf that
// is unlike stand unlike nodes, up to two that are alike though their kids are not; where there are none, the peaks are
// unlike.
func parted(w int, x []api.Hash, p api.Reach, y []api.Hash, q api.Reach) (api.Clash, bool) {
	var found api.Clash
	var ok bool
	join := func(l, r pair) pair {
		up := pair{hash.Node(w, l.x, r.x), hash.Node(w, l.y, r.y)}
		if !ok && up.x == up.y && (l.x != l.y || r.x != r.y) {
			found, ok = api.Clash{A: hash.NodeText(l.x, r.x), B: hash.NodeText(l.y, r.y)}, true
		}
		return up
	}
	var a, b []api.Hash
	for _, top := range climb(p.From, p.To, p.Size, sideBySide(x, y), sideBySide(p.Nodes, q.Nodes), join) {
		a, b = append(a, top.x), append(b, top.y)
	}
	if ok {
		return found, true
	}
	return clash.Peaks(w, p.Size, a, b)
}
