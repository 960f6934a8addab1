package hash

import (
	"bytes"
	"slices"

	"massif/api"
)

// input is what one step of the hash is given.
type input struct {
	state api.Hash
	block [64]byte
}

// Descend leads from two unlike texts with one hash to two unlike inputs of Compress with one outcome.
func Descend(w int, a, b []byte) (api.Step, bool) {
	if bytes.Equal(a, b) || Sum(w, a) != Sum(w, b) {
		return api.Step{}, false
	}
	as, bs := inputs(w, a), inputs(w, b)
	for n := 1; n <= len(as) && n <= len(bs); n++ {
		x, y := as[len(as)-n], bs[len(bs)-n]
		if x != y {
			return api.Step{StateA: x.state, StateB: y.state, BlockA: x.block, BlockB: y.block}, true
		}
	}
	// Not reached: texts of unlike lengths part in their last blocks, others have as many blocks and part in one.
	return api.Step{}, false
}

// inputs are those of all steps that the hash of text takes.
func inputs(w int, text []byte) []input {
	whole := slices.Concat(text, ending(uint64(len(text))))
	steps := make([]input, 0, len(whole)/blockLen)
	state := first(w)
	for block := range slices.Chunk(whole, blockLen) {
		next := input{state, [64]byte(block)}
		steps = append(steps, next)
		state = Compress(w, next.state, next.block)
	}
	return steps
}
