package carry

import (
	"massif/api"
	"massif/num"
)

// ofEvent says of what the bytes are, in the first of them.
const ofEvent = 69

// hashLen is how many bytes a hash has.
const hashLen = len(api.Hash{})

// EncodeEvent is an event in bytes.
func EncodeEvent(ev api.Event) ([]byte, api.Errno) {
	if ev.Size >= api.MaxLeaves {
		return nil, api.ErrSize
	}
	if len(ev.Peaks) != num.Ones(ev.Size) {
		return nil, api.ErrCount
	}
	b := append([]byte{ofEvent}, num.Short(ev.Size)...)
	b = append(b, ev.Leaf[:]...)
	for _, h := range ev.Peaks {
		b = append(b, h[:]...)
	}
	return b, api.OK
}

// DecodeEvent reads what EncodeEvent has written.
func DecodeEvent(b []byte) (api.Event, api.Errno) {
	if len(b) == 0 {
		return api.Event{}, api.ErrCut
	}
	if b[0] != ofEvent {
		return api.Event{}, api.ErrKind
	}
	n, long, e := num.Long(b[1:])
	if e != api.OK {
		return api.Event{}, e
	}
	if n >= api.MaxLeaves {
		return api.Event{}, api.ErrSize
	}
	l, e := hashes(b[1+long:], 1+num.Ones(n))
	if e != api.OK {
		return api.Event{}, e
	}
	return api.Event{Size: n, Leaf: l[0], Peaks: l[1:]}, api.OK
}

// hashes are those that b has, so many and nothing more.
func hashes(b []byte, count int) ([]api.Hash, api.Errno) {
	if len(b) < count*hashLen {
		return nil, api.ErrCut
	}
	if len(b) > count*hashLen {
		return nil, api.ErrTail
	}
	l := make([]api.Hash, count)
	for i := range l {
		copy(l[i][:], b[i*hashLen:])
	}
	return l, api.OK
}
