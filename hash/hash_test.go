package hash_test

import (
	"bytes"
	"crypto/sha256"
	"encoding/hex"
	"math"
	"testing"

	"massif/api"
	"massif/hash"
)

func bytesOf(text string) []byte { return []byte(text) }

func fromHex(t *testing.T, digits string) api.Hash {
	t.Helper()
	b, err := hex.DecodeString(digits)
	if err != nil || len(b) != 32 {
		t.Fatal("no hash: ", digits)
	}
	return api.Hash(b)
}

// 2.4: the examples.
func TestSumExamples(t *testing.T) {
	abc := fromHex(t, "ba7816bf8f01cfea414140de5dae2223b00361a396177a9cb410ff61f20015ad")
	for _, c := range []struct {
		name      string
		got, want api.Hash
	}{
		{"Sum(32)", hash.Sum(32), fromHex(t, "e3b0c44298fc1c149afbf4c8996fb92427ae41e4649b934ca495991b7852b855")},
		{"Sum(32, abc)", hash.Sum(32, bytesOf("abc")), abc},
		{"Sum(32, a, , bc)", hash.Sum(32, bytesOf("a"), nil, bytesOf("bc")), abc},
		{"Sum(99, abc)", hash.Sum(99, bytesOf("abc")), abc},
		{"Sum(0, abc)", hash.Sum(0, bytesOf("abc")), hash.Sum(1, bytesOf("abc"))},
	} {
		if c.got != c.want {
			t.Errorf("%s: %x, want %x", c.name, c.got, c.want)
		}
	}
}

// 2.4: with the width 32 it is SHA-256.
func TestSumOfWidth32(t *testing.T) {
	for n := range 400 {
		text := bytesOf(ordinary(n))
		if got, want := hash.Sum(32, text), api.Hash(sha256.Sum256(text)); got != want {
			t.Fatalf("Sum of %d bytes: %x, want %x", n, got, want)
		}
	}
	long := bytes.Repeat(bytesOf("massif"), 200000)
	if hash.Sum(32, long) != sha256.Sum256(long) {
		t.Error("a long text")
	}
}

// 2.4: narrow ones cut each state, that ahead of the first block too.
func TestSumOfAllWidths(t *testing.T) {
	m := newModel(0)
	for w, counts := range widths() {
		m.width = counts
		for _, n := range []int{0, 55, 56, 64, 130} {
			if got, want := hash.Sum(w, bytesOf(ordinary(n))), m.sum(ordinary(n)); got != want {
				t.Errorf("Sum(%d, %d bytes): %x, want %x", w, n, got, want)
			}
		}
	}
	for _, w := range []int{1, 2, 5, 31, 32} {
		m.width = w
		for _, n := range lengths() {
			if got, want := hash.Sum(w, bytesOf(ordinary(n))), m.sum(ordinary(n)); got != want {
				t.Errorf("Sum(%d, %d bytes): %x, want %x", w, n, got, want)
			}
		}
	}
}

// 2.4: parts are one text, cut wherever.
func TestSumOfParts(t *testing.T) {
	for _, w := range []int{1, 7, 32} {
		for _, n := range lengths() {
			text := bytesOf(ordinary(n))
			want := hash.Sum(w, text)
			for i := range n + 1 {
				if hash.Sum(w, text[:i], text[i:]) != want || hash.Sum(w, nil, text[:i/2], text[i/2:i], []byte{}, text[i:], nil) != want {
					t.Fatalf("width %d, %d bytes, cut at %d", w, n, i)
				}
			}
			var single [][]byte
			for i := range text {
				single = append(single, text[i:i+1])
			}
			if hash.Sum(w, single...) != want {
				t.Errorf("width %d, %d bytes one by one", w, n)
			}
		}
		if hash.Sum(w) != hash.Sum(w, nil) || hash.Sum(w) != hash.Sum(w, []byte{}, nil, []byte{}) {
			t.Errorf("width %d: no part and empty parts", w)
		}
	}
}

// R3: nothing behind a part's length is read or written, no part is changed.
func TestSumSpareRoom(t *testing.T) {
	for n := range 130 {
		room := bytesOf(ordinary(n + 200))
		before := bytes.Clone(room)
		parts := [][]byte{room[:n], room[n+10 : n+20]}
		got := hash.Sum(9, parts...)
		if !bytes.Equal(room, before) || len(parts[0]) != n || len(parts[1]) != 10 {
			t.Fatalf("%d bytes: the parts are others now", n)
		}
		for i := range room {
			if i >= n && i < n+10 || i >= n+20 {
				room[i]++
			}
		}
		if hash.Sum(9, parts...) != got {
			t.Fatalf("%d bytes: what lies behind them tells", n)
		}
	}
}

// 2.6: Sum is the hash of what was taken, Len how many bytes, after each piece.
func TestHasher(t *testing.T) {
	for w, counts := range widths() {
		h := hash.New(w)
		var all []byte
		for n := range 40 {
			if h.Len() != uint64(len(all)) || h.Sum() != hash.Sum(counts, all) {
				t.Fatalf("width %d, after %d pieces: %d bytes, %x", w, n, h.Len(), h.Sum())
			}
			piece := bytesOf(ordinary(n * 5 % 73))
			h.Write(piece)
			all = append(all, piece...)
		}
	}
}

// 2.6: a text cut into two pieces at every place; Sum between them changes nothing.
func TestHasherPieces(t *testing.T) {
	for _, n := range lengths() {
		text := bytesOf(ordinary(n))
		for i := range n + 1 {
			h := hash.New(4)
			h.Write(text[:i])
			first := h.Sum()
			if h.Sum() != first || first != hash.Sum(4, text[:i]) || h.Len() != uint64(i) {
				t.Fatalf("%d bytes, after %d", n, i)
			}
			h.Write(nil)
			h.Write([]byte{})
			h.Write(text[i:])
			if h.Sum() != hash.Sum(4, text) || h.Len() != uint64(n) {
				t.Fatalf("%d bytes, cut at %d", n, i)
			}
		}
	}
}

// 2.6: a clone and its hasher go on apart.
func TestClone(t *testing.T) {
	for _, n := range lengths() {
		text := bytesOf(ordinary(n))
		h := hash.New(6)
		h.Write(text)
		c := h.Clone()
		if c == h || c.Sum() != h.Sum() || c.Len() != h.Len() {
			t.Fatalf("%d bytes: the clone is another one", n)
		}
		mine, other := bytesOf(ordinary(70)), bytesOf("other")
		h.Write(mine)
		if c.Sum() != hash.Sum(6, text) || c.Len() != uint64(n) {
			t.Errorf("%d bytes: the clone has taken what its hasher took", n)
		}
		c.Write(other)
		if h.Sum() != hash.Sum(6, text, mine) || c.Sum() != hash.Sum(6, text, other) {
			t.Errorf("%d bytes: they do not go on apart", n)
		}
		if h.Len() != uint64(n+70) || c.Len() != uint64(n+5) {
			t.Errorf("%d bytes: lengths %d and %d", n, h.Len(), c.Len())
		}
		if d := c.Clone().Clone(); d.Sum() != c.Sum() || d.Len() != c.Len() {
			t.Errorf("%d bytes: a clone's clone", n)
		}
	}
}

// R3: a piece is not kept, not changed, and not read behind its length. R4: no hasher hangs on another.
func TestHasherKeepsNoPiece(t *testing.T) {
	for _, n := range []int{0, 1, 63, 64, 65, 130} {
		room := bytesOf(ordinary(n + 100))
		want := hash.Sum(32, room[:n])
		before := bytes.Clone(room)
		h, other := hash.New(32), hash.New(32)
		h.Write(room[:n])
		other.Write(bytesOf("of another one"))
		if !bytes.Equal(room, before) {
			t.Fatalf("%d bytes: the piece is another one now", n)
		}
		clear(room)
		if h.Sum() != want || other.Sum() != hash.Sum(32, bytesOf("of another one")) {
			t.Errorf("%d bytes: the piece was kept", n)
		}
	}
}

// 2.5: the texts.
func TestTexts(t *testing.T) {
	l, r := someStates()[7], someStates()[3]
	for _, c := range []struct {
		name      string
		got, want []byte
	}{
		{"LeafText(07)", hash.LeafText([]byte{7}), []byte{0, 7}},
		{"LeafText()", hash.LeafText(nil), []byte{0}},
		{"LeafText(empty)", hash.LeafText([]byte{}), []byte{0}},
		{"LeafText of much", hash.LeafText(bytesOf(ordinary(300))), append([]byte{0}, ordinary(300)...)},
		{"NodeText", hash.NodeText(l, r), bytes.Join([][]byte{{1}, l[:], r[:]}, nil)},
		{"NodeText of one", hash.NodeText(r, r), bytes.Join([][]byte{{1}, r[:], r[:]}, nil)},
		{"FoldText", hash.FoldText(l, r), bytes.Join([][]byte{{2}, l[:], r[:]}, nil)},
		{"RootText(258)", hash.RootText(258, l), bytes.Join([][]byte{{3, 0, 0, 0, 0, 0, 0, 1, 2}, l[:]}, nil)},
		{"RootText(0)", hash.RootText(0, l), bytes.Join([][]byte{{3, 0, 0, 0, 0, 0, 0, 0, 0}, l[:]}, nil)},
		{"RootText(most)", hash.RootText(math.MaxUint64, l), bytes.Join([][]byte{{3, 255, 255, 255, 255, 255, 255, 255, 255}, l[:]}, nil)},
		{"RootText(all unlike)", hash.RootText(0x0102030405060708, r), bytes.Join([][]byte{{3, 1, 2, 3, 4, 5, 6, 7, 8}, r[:]}, nil)},
	} {
		if !bytes.Equal(c.got, c.want) {
			t.Errorf("%s: %x, want %x", c.name, c.got, c.want)
		}
	}
}

// 2.5: the hashes of the texts.
func TestHashesOfTexts(t *testing.T) {
	l, r := someStates()[7], someStates()[3]
	m := newModel(0)
	for w, counts := range widths() {
		m.width = counts
		data := ordinary(20)
		if hash.Leaf(w, bytesOf(data)) != m.sum("\x00"+data) || hash.Leaf(w, nil) != m.sum("\x00") {
			t.Errorf("Leaf of width %d", w)
		}
		if hash.Node(w, l, r) != m.sum("\x01"+string(l[:])+string(r[:])) {
			t.Errorf("Node of width %d", w)
		}
		if hash.Fold(w, l, r) != m.sum("\x02"+string(l[:])+string(r[:])) {
			t.Errorf("Fold of width %d", w)
		}
		if hash.Root(w, 258, l) != m.sum("\x03\x00\x00\x00\x00\x00\x00\x01\x02"+string(l[:])) {
			t.Errorf("Root of width %d", w)
		}
		if hash.Root(w, math.MaxUint64, r) != m.sum("\x03\xff\xff\xff\xff\xff\xff\xff\xff"+string(r[:])) {
			t.Errorf("Root of the greatest size, width %d", w)
		}
	}
}

// R3: texts are new, and share nothing, their spare room neither.
func TestTextsAreNew(t *testing.T) {
	data := bytesOf(ordinary(50))
	before := bytes.Clone(data)
	l, r := someStates()[7], someStates()[3]
	make4 := func() [][]byte {
		return [][]byte{hash.LeafText(data[:20]), hash.NodeText(l, r), hash.FoldText(l, r), hash.RootText(5, l)}
	}
	one, two := make4(), make4()
	for i := range one {
		whole := one[i][:cap(one[i])]
		for j := range whole {
			whole[j] ^= 255
		}
	}
	if !bytes.Equal(data, before) || l != someStates()[7] || r != someStates()[3] {
		t.Error("what was handed in is another one now")
	}
	for i, want := range make4() {
		if !bytes.Equal(two[i], want) {
			t.Errorf("text %d shares something", i)
		}
	}
	if leaf := hash.LeafText(data[:20]); !bytes.Equal(leaf[1:], before[:20]) {
		t.Error("LeafText reads behind the length")
	}
}
