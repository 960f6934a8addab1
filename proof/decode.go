package proof

import (
	"massif/api"
	"massif/num"
)

// Decode reads what Encode has written.
func Decode(b []byte) (api.Proof, api.Errno) {
	r := memberReader{input: input{b}}
	if e := inTurn(r.kind, r.size, r.index, r.nodes); e != api.OK {
		return api.Proof{}, e
	}
	return r.proof, api.OK
}

// DecodePrefix reads what EncodePrefix has written.
func DecodePrefix(b []byte) (api.Prefix, api.Errno) {
	r := prefixReader{input: input{b}}
	if e := inTurn(r.kind, r.from, r.size, r.nodes); e != api.OK {
		return api.Prefix{}, e
	}
	return r.proof, api.OK
}

// inTurn reads part by part: one that is refused ends it, so that what is wrong first is told.
func inTurn(parts ...func() api.Errno) api.Errno {
	for _, read := range parts {
		if e := read(); e != api.OK {
			return e
		}
	}
	return api.OK
}

// memberReader reads the parts of a leaf's proof.
type memberReader struct {
	input
	proof api.Proof
}

func (r *memberReader) kind() api.Errno { return r.mark(ofMember) }

func (r *memberReader) size() api.Errno {
	e := r.number(&r.proof.Size)
	if e == api.OK && r.proof.Size > api.MaxLeaves {
		return api.ErrSize
	}
	return e
}

func (r *memberReader) index() api.Errno { return r.number(&r.proof.Index) }

func (r *memberReader) nodes() api.Errno {
	places, e := Places(r.proof.Index, r.proof.Size)
	if e != api.OK {
		return e
	}
	return r.hashes(&r.proof.Nodes, len(places))
}

// prefixReader reads the parts of a prefix proof.
type prefixReader struct {
	input
	proof api.Prefix
}

func (r *prefixReader) kind() api.Errno { return r.mark(ofPrefix) }

func (r *prefixReader) from() api.Errno { return r.number(&r.proof.From) }

func (r *prefixReader) size() api.Errno { return r.number(&r.proof.Size) }

func (r *prefixReader) nodes() api.Errno {
	places, e := PrefixPlaces(r.proof.From, r.proof.Size)
	if e != api.OK {
		return e
	}
	return r.hashes(&r.proof.Nodes, len(places))
}

// input is bytes that are read from the front.
type input struct{ rest []byte }

// mark reads the byte that says of what the bytes are.
func (in *input) mark(of byte) api.Errno {
	if len(in.rest) == 0 {
		return api.ErrCut
	}
	if in.rest[0] != of {
		return api.ErrKind
	}
	in.rest = in.rest[1:]
	return api.OK
}

// number reads what num.Short has written.
func (in *input) number(to *uint64) api.Errno {
	x, n, e := num.Long(in.rest)
	if e != api.OK {
		return e
	}
	*to, in.rest = x, in.rest[n:]
	return api.OK
}

// hashes reads so many nodes, behind which the bytes must end.
func (in *input) hashes(to *[]api.Hash, count int) api.Errno {
	long := count * hashLen
	if len(in.rest) < long {
		return api.ErrCut
	}
	if len(in.rest) > long {
		return api.ErrTail
	}
	nodes := make([]api.Hash, count)
	for i := range nodes {
		copy(nodes[i][:], in.rest[i*hashLen:])
	}
	*to = nodes
	return api.OK
}
