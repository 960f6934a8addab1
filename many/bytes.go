package many

import (
	"massif/api"
	"massif/num"
)

// ofMany says of what the bytes are, in the first of them.
const ofMany = 78

// hashLen is how many bytes a node has.
const hashLen = len(api.Hash{})

// written is a proof, which must be whole, in bytes.
func written(p api.Many) []byte {
	b := []byte{ofMany}
	b = append(b, num.Short(p.Size)...)
	b = append(b, num.Short(uint64(len(p.Index)))...)
	least := uint64(0) // that the next index can be
	for _, i := range p.Index {
		b = append(b, num.Short(i-least)...)
		least = i + 1
	}
	for _, h := range p.Nodes {
		b = append(b, h[:]...)
	}
	return b
}

// reader reads bytes from the front, and gives up where they are wrong.
type reader struct{ rest []byte }

func (r *reader) proof() api.Many {
	r.kind()
	p := api.Many{Size: r.size()}
	p.Index = r.index(p.Size)
	need(p.Index, p.Size, func(uint64) { p.Nodes = append(p.Nodes, r.hash()) })
	r.end()
	return p
}

func (r *reader) kind() {
	if len(r.rest) == 0 {
		panic(wrong(api.ErrCut))
	}
	if r.rest[0] != ofMany {
		panic(wrong(api.ErrKind))
	}
	r.rest = r.rest[1:]
}

func (r *reader) size() uint64 {
	n := r.number()
	if n > api.MaxLeaves {
		panic(wrong(api.ErrSize))
	}
	return n
}

// index reads the indices, how many of them ahead. There may be said to come more than there are bytes: no room is made
// for them but as they are read.
func (r *reader) index(n uint64) []uint64 {
	var index []uint64
	least := uint64(0) // that the next one can be: at most n
	for range r.number() {
		above := r.number()
		if above >= n-least {
			panic(wrong(api.ErrIndex))
		}
		index = append(index, least+above)
		least += above + 1
	}
	return index
}

func (r *reader) number() uint64 {
	x, n, e := num.Long(r.rest)
	if e != api.OK {
		panic(wrong(e))
	}
	r.rest = r.rest[n:]
	return x
}

func (r *reader) hash() api.Hash {
	if len(r.rest) < hashLen {
		panic(wrong(api.ErrCut))
	}
	var h api.Hash
	copy(h[:], r.rest)
	r.rest = r.rest[hashLen:]
	return h
}

// end gives up where bytes are left.
func (r *reader) end() {
	if len(r.rest) > 0 {
		panic(wrong(api.ErrTail))
	}
}
