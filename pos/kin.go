package pos

// Parent is the place of the parent of what stands at p.
func Parent(p uint64) (uint64, bool) {
	s, ok := Spot(p)
	if !ok || s.Height == top {
		return 0, false
	}
	return over(p, int(s.Height), s.Index&1 == 1), true
}

// Sibling is the place of the sibling of what stands at p.
func Sibling(p uint64) (uint64, bool) {
	s, ok := Spot(p)
	if !ok || s.Height == top {
		return 0, false
	}
	return beside(p, int(s.Height), s.Index&1 == 1), true
}

// over is the place of the parent of a node at p: it is made right behind its right kid.
func over(p uint64, height int, right bool) uint64 {
	if right {
		return p + 1
	}
	return p + tree(height) + 1
}

// beside is the place of the sibling of a node at p: between the two lie the nodes under the right one.
func beside(p uint64, height int, right bool) uint64 {
	if right {
		return p - tree(height)
	}
	return p + tree(height)
}

// Kids are the places of the kids of what stands at p, the left one first.
func Kids(p uint64) (uint64, uint64, bool) {
	s, ok := Spot(p)
	if !ok || s.Height == 0 {
		return 0, 0, false
	}
	right := p - 1
	return beside(right, int(s.Height)-1, true), right, true
}

// Right tells whether a right kid stands at p.
func Right(p uint64) bool {
	s, ok := Spot(p)
	return ok && s.Index&1 == 1
}

// Under is the leaves under what stands at p: the first, and 1 more than the last.
func Under(p uint64) (uint64, uint64, bool) {
	s, ok := Spot(p)
	if !ok {
		return 0, 0, false
	}
	return s.Index << s.Height, (s.Index + 1) << s.Height, true
}

// Since is the least number of leaves with which p is there.
func Since(p uint64) (uint64, bool) {
	_, to, ok := Under(p)
	return to, ok
}
