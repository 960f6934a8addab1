package span

import (
	"massif/api"
	"massif/num"
)

// ofSpan says of what the bytes are, in the first of them.
const ofSpan = 83

// hashLen is how many bytes a node has.
const hashLen = len(api.Hash{})

// written is a proof, which must be whole, in bytes.
func written(p api.Reach) []byte {
	b := []byte{ofSpan}
	b = append(b, num.Short(p.Size)...)
	b = append(b, num.Short(p.From)...)
	b = append(b, num.Short(p.To-p.From)...)
	for _, h := range p.Nodes {
		b = append(b, h[:]...)
	}
	return b
}

// reader reads bytes from the front. What is wrong with them first stays; behind that it reads noughts.
type reader struct {
	rest  []byte
	wrong api.Errno
}

func (r *reader) proof() api.Reach {
	r.kind()
	var p api.Reach
	p.Size = r.number(api.MaxLeaves, api.ErrSize)
	p.From = r.number(p.Size, api.ErrIndex)
	// What is above From is held against what room there is: the two together may be more than a number holds.
	p.To = p.From + r.number(p.Size-p.From, api.ErrIndex)
	p.Nodes = r.nodes(p.From, p.To, p.Size)
	return p
}

func (r *reader) kind() {
	if len(r.rest) == 0 {
		r.wrong = api.ErrCut
		return
	}
	if r.rest[0] != ofSpan {
		r.wrong = api.ErrKind
		return
	}
	r.rest = r.rest[1:]
}

// number reads one that may be as great as most; beyond is what is wrong with a greater one.
func (r *reader) number(most uint64, beyond api.Errno) uint64 {
	if r.wrong != api.OK {
		return 0
	}
	x, n, e := num.Long(r.rest)
	if e == api.OK && x > most {
		e = beyond
	}
	if e != api.OK {
		r.wrong = e
		return 0
	}
	r.rest = r.rest[n:]
	return x
}

// nodes reads those that a span needs, and that nothing is behind them.
func (r *reader) nodes(from, to, n uint64) []api.Hash {
	if r.wrong != api.OK {
		return nil
	}
	places, _ := Places(from, to, n)
	long := hashLen * len(places)
	if len(r.rest) < long {
		r.wrong = api.ErrCut
		return nil
	}
	if len(r.rest) > long {
		r.wrong = api.ErrTail
		return nil
	}
	nodes := make([]api.Hash, len(places))
	for k := range nodes {
		copy(nodes[k][:], r.rest[hashLen*k:])
	}
	return nodes
}
