package span

import "massif/pos"

// need tells take the places of the nodes that the leaves from, .., to - 1 of n need, rising.
func need(from, to, n uint64, take func(p uint64)) {
	for _, p := range pos.Peaks(n) {
		needUnder(p, from, to, take)
	}
}

// needUnder does so of what stands at p and under it. Nobody goes down where all leaves are of the span, nor where none
// is: so at each height at most two nodes are gone through, those over the span's two ends. The left kid comes first, and
// so all that is under it: that has lower places than what is under the right one.
func needUnder(p, from, to uint64, take func(p uint64)) {
	if apart(p, from, to) {
		take(p)
		return
	}
	if first, end, _ := pos.Under(p); from <= first && end <= to {
		return
	}
	left, right, _ := pos.Kids(p) // a leaf is apart, or of the span
	needUnder(left, from, to, take)
	needUnder(right, from, to, take)
}

// apart tells whether none of the leaves from, .., to - 1 stands under p.
func apart(p, from, to uint64) bool {
	first, end, _ := pos.Under(p)
	return max(first, from) >= min(end, to)
}
