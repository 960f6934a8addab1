package num

import "massif/api"

const (
	wide  = 8   // bytes of the greatest number, the highest first
	most  = 10  // groups of the greatest number
	group = 7   // bits of a group
	more  = 128 // is added to a group that another one follows
)

// Big is x in n bytes, the highest first.
func Big(x uint64, n int) ([]byte, api.Errno) {
	if n < 0 || n > wide {
		return nil, api.ErrArg
	}
	if Shr(x, 8*n) != 0 {
		return nil, api.ErrRange
	}
	b := make([]byte, n)
	for i := range b {
		b[i] = byte(Shr(x, 8*(n-1-i)))
	}
	return b, api.OK
}

// FromBig is the number that Big has written.
func FromBig(b []byte) (uint64, api.Errno) {
	if len(b) > wide {
		return 0, api.ErrLong
	}
	x := uint64(0)
	for _, c := range b {
		x = x<<8 | uint64(c)
	}
	return x, api.OK
}

// Short is x in as few groups of 7 bits as it needs, the lowest first.
func Short(x uint64) []byte {
	b := make([]byte, 0, most)
	for ; x >= more; x >>= group {
		b = append(b, byte(x%more)+more)
	}
	return append(b, byte(x))
}

// Long reads what Short has written from the front of b, and tells how many bytes it had.
func Long(b []byte) (uint64, int, api.Errno) {
	x := uint64(0)
	for i, c := range b[:min(len(b), most)] {
		low := uint64(c % more)
		part := Shl(low, group*i)
		if c >= more {
			x |= part
			continue
		}
		// Only the tenth group reaches beyond the 64 bits.
		if Shr(part, group*i) != low {
			return 0, 0, api.ErrRange
		}
		if c == 0 && i > 0 {
			return 0, 0, api.ErrForm
		}
		return x | part, i + 1, api.OK
	}
	if len(b) < most {
		return 0, 0, api.ErrCut
	}
	return 0, 0, api.ErrRange
}
