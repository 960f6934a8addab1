package image

import (
	"massif/api"
	"massif/num"
	"massif/pos"
)

// parts are what a keep is made of.
type parts struct {
	width, log int
	size       uint64
	places     []uint64
	nodes      []api.Hash
	pins       map[uint64]int
}

// wrong is what reading gives up with: what is wrong, and at which byte that begins.
type wrong struct {
	e  api.Errno
	at int
}

// face does what may give up, and answers what it gave up with; the error is OK, if it did not.
func face(do func()) (bad wrong) {
	defer func() {
		if r := recover(); r != nil {
			bad = r.(wrong) // nothing else here panics
		}
	}()
	do()
	return wrong{}
}

// reader reads bytes from the front, and gives up where they are wrong.
type reader struct {
	b  []byte
	at int // as many bytes are read
}

func (r *reader) parts() parts {
	r.kind()
	k := parts{pins: map[uint64]int{}}
	k.width = int(r.within(1, uint64(hashLen), api.ErrArg))
	k.log = int(r.within(0, api.MaxLog, api.ErrArg))
	k.size = r.within(0, api.MaxLeaves, api.ErrSize)
	r.living(&k)
	r.pinned(&k)
	r.end()
	return k
}

func (r *reader) kind() {
	if len(r.b) == 0 {
		panic(wrong{api.ErrCut, 0})
	}
	if r.b[0] != ofKeep {
		panic(wrong{api.ErrKind, 0})
	}
	r.at = 1
}

// living reads the nodes that live, how many of them ahead. There may be said to come more than there are bytes: no room
// is made for them but as they are read.
func (r *reader) living(k *parts) {
	end, _ := pos.Nodes(k.size) // a size that was read has nodes
	least := uint64(0)
	for range r.number() {
		p := r.above(least, end, api.ErrPlace)
		k.places = append(k.places, p)
		k.nodes = append(k.nodes, r.hash())
		least = p + 1
	}
}

// pinned reads the leaves that have pins, and how many each has, likewise.
func (r *reader) pinned(k *parts) {
	least := uint64(0)
	for range r.number() {
		i := r.above(least, k.size, api.ErrIndex)
		k.pins[i] = int(r.within(1, maxPins, api.ErrArg))
		least = i + 1
	}
}

// above reads a number that is told by what it is above least, and must be below end. Least is not above end: held
// against what is between the two, nothing wraps round.
func (r *reader) above(least, end uint64, e api.Errno) uint64 {
	first := r.at
	x := r.number()
	if x >= end-least {
		panic(wrong{e, first})
	}
	return least + x
}

// within reads a number that must be low, high or between.
func (r *reader) within(low, high uint64, e api.Errno) uint64 {
	first := r.at
	x := r.number()
	if x < low || x > high {
		panic(wrong{e, first})
	}
	return x
}

func (r *reader) number() uint64 {
	x, n, e := num.Long(r.b[r.at:])
	if e != api.OK {
		panic(wrong{e, r.at})
	}
	r.at += n
	return x
}

func (r *reader) hash() api.Hash {
	if len(r.b)-r.at < hashLen {
		panic(wrong{api.ErrCut, r.at})
	}
	var h api.Hash
	copy(h[:], r.b[r.at:])
	r.at += hashLen
	return h
}

// end gives up where bytes are left.
func (r *reader) end() {
	if r.at < len(r.b) {
		panic(wrong{api.ErrTail, r.at})
	}
}
