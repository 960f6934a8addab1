package proof

import (
	"massif/api"
	"massif/num"
)

// What bytes are of, in the first of them.
const (
	ofMember = 77
	ofPrefix = 80
)

// hashLen is how many bytes a node has.
const hashLen = len(api.Hash{})

// Encode is a leaf's proof in bytes.
func Encode(p api.Proof) ([]byte, api.Errno) {
	places, e := Places(p.Index, p.Size)
	if e != api.OK {
		return nil, e
	}
	if len(p.Nodes) != len(places) {
		return nil, api.ErrCount
	}
	return written(ofMember, p.Size, p.Index, p.Nodes), api.OK
}

// EncodePrefix is a prefix proof in bytes.
func EncodePrefix(p api.Prefix) ([]byte, api.Errno) {
	places, e := PrefixPlaces(p.From, p.Size)
	if e != api.OK {
		return nil, e
	}
	if len(p.Nodes) != len(places) {
		return nil, api.ErrCount
	}
	return written(ofPrefix, p.From, p.Size, p.Nodes), api.OK
}

// written is a byte that says of what it is, two numbers and the nodes.
func written(of byte, x, y uint64, nodes []api.Hash) []byte {
	b := []byte{of}
	b = append(b, num.Short(x)...)
	b = append(b, num.Short(y)...)
	for _, h := range nodes {
		b = append(b, h[:]...)
	}
	return b
}
