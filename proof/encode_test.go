package proof_test

import (
	"bytes"
	"slices"
	"testing"

	"massif/api"
	"massif/proof"
)

func checkEncode(t *testing.T, p api.Proof, want []byte, wantE api.Errno) {
	t.Helper()
	if got, e := proof.Encode(p); !bytes.Equal(got, want) || e != wantE {
		t.Fatalf("Encode{%d, %d, %d nodes} is %x, %v, want %x, %v", p.Size, p.Index, len(p.Nodes), got, e, want, wantE)
	}
}

func checkEncodePrefix(t *testing.T, p api.Prefix, want []byte, wantE api.Errno) {
	t.Helper()
	if got, e := proof.EncodePrefix(p); !bytes.Equal(got, want) || e != wantE {
		t.Fatalf("EncodePrefix{%d, %d, %d nodes} is %x, %v, want %x, %v", p.From, p.Size, len(p.Nodes), got, e, want, wantE)
	}
}

// Promise 7.4: the examples, and small proofs byte by byte.
func TestEncodeExamples(t *testing.T) {
	a, b := h(1), h(2)
	checkEncode(t, api.Proof{Size: 1}, []byte{0x4d, 1, 0}, api.OK)
	checkEncode(t, api.Proof{Size: 1, Nodes: []api.Hash{}}, []byte{0x4d, 1, 0}, api.OK)
	checkEncode(t, api.Proof{Size: 1, Nodes: []api.Hash{a}}, nil, api.ErrCount)
	nodes := hashes(9, 11)
	checkEncode(t, api.Proof{Size: 300, Nodes: nodes}, append([]byte{0x4d, 0xac, 2, 0}, plain(nodes)...), api.OK)
	checkEncode(t, api.Proof{Size: 2, Index: 1, Nodes: []api.Hash{a}}, append([]byte{0x4d, 2, 1}, a[:]...), api.OK)
	checkEncodePrefix(t, api.Prefix{}, []byte{0x50, 0, 0}, api.OK)
	checkEncodePrefix(t, api.Prefix{From: 1, Size: 2, Nodes: []api.Hash{a, b}}, slices.Concat([]byte{0x50, 1, 2}, a[:], b[:]), api.OK)
	checkEncodePrefix(t, api.Prefix{From: 0, Size: 300, Nodes: nodes[:4]}, append([]byte{0x50, 0, 0xac, 2}, plain(nodes[:4])...), api.OK)
	checkEncodePrefix(t, api.Prefix{From: 1, Size: 2}, nil, api.ErrCount)
}

// plain is the bytes of nodes, one behind the other.
func plain(nodes []api.Hash) []byte {
	var b []byte
	for _, n := range nodes {
		b = append(b, n[:]...)
	}
	return b
}

// Promises 7.4, 7.5 and 7.6: every leaf and every beginning of many sizes, the greatest one among them, with bytes that
// are worked out anew.
func TestEncode(t *testing.T) {
	for _, n := range sizes() {
		for _, i := range indices(n) {
			p := api.Proof{Size: n, Index: i, Nodes: hashes(i, len(spotsOf(i, n)))}
			b := bytesOf(77, n, i, p.Nodes)
			checkEncode(t, p, b, api.OK)
			checkDecode(t, b, p, api.OK)
		}
		for _, m := range append(indices(n), n) {
			p := api.Prefix{From: m, Size: n, Nodes: hashes(m, len(prefixSpotsOf(m, n)))}
			b := bytesOf(80, m, n, p.Nodes)
			checkEncodePrefix(t, p, b, api.OK)
			checkDecodePrefix(t, b, p, api.OK)
		}
	}
}

// Promise 7.4: every other number of nodes than the right one, one too few and one too many among them.
func TestEncodeCount(t *testing.T) {
	for _, n := range sizes() {
		for _, i := range few(n) {
			right := len(spotsOf(i, n))
			for count := range right + 5 {
				if count != right {
					checkEncode(t, api.Proof{Size: n, Index: i, Nodes: hashes(0, count)}, nil, api.ErrCount)
				}
			}
			right = len(prefixSpotsOf(i, n))
			for count := range right + 5 {
				if count != right {
					checkEncodePrefix(t, api.Prefix{From: i, Size: n, Nodes: hashes(0, count)}, nil, api.ErrCount)
				}
			}
		}
	}
	checkEncodePrefix(t, api.Prefix{Nodes: hashes(0, 1)}, nil, api.ErrCount)
	checkEncode(t, api.Proof{Size: 7, Index: 1, Nodes: hashes(0, 1000)}, nil, api.ErrCount)
}

// Promise 7.4 and rule R2: sizes and indices that are none, at the ends of 64 bits too; the size is told ahead of the
// index, the index ahead of the number of nodes.
func TestEncodeWrongNumbers(t *testing.T) {
	for _, nodes := range [][]api.Hash{nil, hashes(0, 1), hashes(0, 2), hashes(0, 62), hashes(0, 200)} {
		for _, n := range beyond() {
			for _, x := range append(beyond(), 0, 1, most-1, most, n-1, n, n+1) {
				checkEncode(t, api.Proof{Size: n, Index: x, Nodes: nodes}, nil, api.ErrSize)
				checkEncodePrefix(t, api.Prefix{From: x, Size: n, Nodes: nodes}, nil, api.ErrSize)
			}
		}
		for _, n := range edges() {
			for _, x := range append(beyond(), n+1, n+2) {
				checkEncode(t, api.Proof{Size: n, Index: x, Nodes: nodes}, nil, api.ErrIndex)
				checkEncodePrefix(t, api.Prefix{From: x, Size: n, Nodes: nodes}, nil, api.ErrSize)
			}
			checkEncode(t, api.Proof{Size: n, Index: n, Nodes: nodes}, nil, api.ErrIndex)
		}
	}
}

// Rule R3: nodes that are handed in stay as they are, what lies behind them too, and nothing there is read; what is
// answered is apart from them and from other answers.
func TestEncodeLists(t *testing.T) {
	for n := range uint64(40) {
		for i := range n {
			count := len(spotsOf(i, n))
			apart(t, 77, n, i, count, func(nodes []api.Hash) ([]byte, api.Errno) {
				return proof.Encode(api.Proof{Size: n, Index: i, Nodes: nodes})
			})
			count = len(prefixSpotsOf(i, n))
			apart(t, 80, i, n, count, func(nodes []api.Hash) ([]byte, api.Errno) {
				return proof.EncodePrefix(api.Prefix{From: i, Size: n, Nodes: nodes})
			})
		}
	}
}

func apart(t *testing.T, kind byte, x, y uint64, count int, call func([]api.Hash) ([]byte, api.Errno)) {
	t.Helper()
	room := hashes(3, count+4)
	kept := slices.Clone(room)
	want := bytesOf(kind, x, y, kept[:count])
	a, e := call(room[:count])
	b, _ := call(room[:count])
	if !slices.Equal(room, kept) || e != api.OK {
		t.Fatalf("%d, %d, %d: the nodes, or what is behind them, have become %x, %v", kind, x, y, room, e)
	}
	if _, e := call(room[:count+1]); e != api.ErrCount {
		t.Fatalf("%d, %d, %d: one node too many is %v", kind, x, y, e)
	}
	clear(room)
	_ = append(a, 1, 2, 3)
	clear(a[:cap(a)])
	if !bytes.Equal(b, want) {
		t.Fatalf("%d, %d, %d: the bytes have become %x, want %x", kind, x, y, b, want)
	}
	if again, _ := call(kept[:count]); !bytes.Equal(again, want) {
		t.Fatalf("%d, %d, %d: asked again: %x, want %x", kind, x, y, again, want)
	}
}
