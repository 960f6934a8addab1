package mmr

// SetSize makes the size another one, its nodes unlooked at: no test can append 2^62 leaves.
func (t *Tree) SetSize(n uint64) { t.size = n }
