package hash_test

import (
	"bytes"
	"math"
	"testing"

	"massif/api"
	"massif/hash"
)

// want is what Descend must answer, by the model's blocks and states.
func (m *model) want(a, b string) (api.Step, bool) {
	sa, sb := m.states(a), m.states(b)
	ba, bb := blocks(a), blocks(b)
	if a == b || sa[len(ba)] != sb[len(bb)] {
		return api.Step{}, false
	}
	i, j := len(ba)-1, len(bb)-1
	for sa[i] == sb[j] && ba[i] == bb[j] {
		i, j = i-1, j-1
	}
	return api.Step{StateA: sa[i], StateB: sb[j], BlockA: ba[i], BlockB: bb[j]}, true
}

// holds is promise 2.8 of a step.
func holds(w int, s api.Step) bool {
	unlike := s.StateA != s.StateB || s.BlockA != s.BlockB
	return unlike && hash.Compress(w, s.StateA, s.BlockA) == hash.Compress(w, s.StateB, s.BlockB)
}

func checkDescend(t *testing.T, m *model, w int, a, b string) bool {
	t.Helper()
	want, wantOK := m.want(a, b)
	got, ok := hash.Descend(w, bytesOf(a), bytesOf(b))
	if ok != wantOK || got != want {
		t.Errorf("Descend(%d, %q, %q): %v, %v, want %v, %v", w, a, b, got, ok, want, wantOK)
	}
	if ok && !holds(w, got) {
		t.Errorf("Descend(%d, %q, %q): inputs %v that are alike, or lead apart", w, a, b, got)
	}
	return ok
}

// 2.7: the examples, and other texts that are the same or have other hashes.
func TestDescendRefuses(t *testing.T) {
	for _, c := range [][2]string{{"abc", "abc"}, {"abc", "abd"}, {"", ""}, {"", "a"}, {"a", "a\x00"}, {ordinary(64), ordinary(64)}, {ordinary(64), ordinary(65)}} {
		if s, ok := hash.Descend(32, bytesOf(c[0]), bytesOf(c[1])); ok || s != (api.Step{}) {
			t.Errorf("Descend(32, %q, %q): %v, %v", c[0], c[1], s, ok)
		}
	}
	for _, w := range []int{1, 0, math.MinInt, math.MaxInt} {
		if s, ok := hash.Descend(w, nil, []byte{}); ok || s != (api.Step{}) {
			t.Errorf("Descend(%d) of nothing twice: %v, %v", w, s, ok)
		}
	}
}

// 2.7, 2.8: all pairs of some texts of one length and of unlike lengths, at the width 1.
func TestDescendPairs(t *testing.T) {
	m := newModel(1)
	var texts []string
	for _, n := range []int{0, 1, 2, 55, 56, 63, 64, 65, 119, 120} {
		texts = append(texts, ordinary(n))
		if n > 0 {
			texts = append(texts, "x"+ordinary(n)[1:], ordinary(n)[1:]+"y")
		}
	}
	for i := range 60 {
		texts = append(texts, string([]byte{byte(i)})+ordinary(70), ordinary(i))
	}
	met := 0
	byHash := map[api.Hash][]string{}
	for _, text := range texts {
		byHash[m.sum(text)] = append(byHash[m.sum(text)], text)
	}
	for _, row := range byHash {
		for _, a := range row {
			for _, b := range row {
				if checkDescend(t, m, 1, a, b) {
					met++
				}
			}
		}
	}
	if met == 0 {
		t.Error("no two texts met")
	}
	for i := range 20 {
		checkDescend(t, m, 1, texts[i], texts[i+1])
	}
}

// meeting is two unlike texts ahead + one byte + behind with one hash.
func meeting(t *testing.T, w int, ahead, behind string) (string, string) {
	t.Helper()
	seen := map[api.Hash]string{}
	for i := range 1 << 16 {
		text := ahead + string([]byte{byte(i), byte(i >> 8)}) + behind
		h := hash.Sum(w, bytesOf(text))
		if old, ok := seen[h]; ok {
			return old, text
		}
		seen[h] = text
	}
	t.Fatal("no two meet")
	return "", ""
}

// 2.7: texts of many blocks, of which the first, one in the middle or the last is unlike.
func TestDescendDeep(t *testing.T) {
	m := newModel(1)
	for _, behind := range []int{0, 30, 52, 53, 54, 62, 120, 260} {
		for _, ahead := range []int{0, 40, 64, 200} {
			a, b := meeting(t, 1, ordinary(ahead), ordinary(behind))
			if !checkDescend(t, m, 1, a, b) {
				t.Errorf("%d ahead, %d behind: false", ahead, behind)
			}
		}
	}
}

// 2.7: where blocks are unlike in two places, the later one is told.
func TestDescendTellsTheLast(t *testing.T) {
	m := newModel(1)
	a, b := meeting(t, 1, "", ordinary(126))
	// The states behind a's and b's second block are one only if they met within: look for such two.
	for i := 0; m.states(a)[2] != m.states(b)[2]; i++ {
		a, b = meeting(t, 1, string([]byte{byte(i)}), ordinary(125))
	}
	c, d := a[:128], b[:128]
	x, y := meeting(t, 1, c, ordinary(80))
	y = d + y[128:]
	if hash.Sum(1, bytesOf(x)) != hash.Sum(1, bytesOf(y)) {
		t.Fatal("the two do not meet")
	}
	checkDescend(t, m, 1, x, y)
	s, ok := hash.Descend(1, bytesOf(x), bytesOf(y))
	if !ok || s.BlockA != [64]byte([]byte(x[128:192])) && s.BlockA != blocks(x)[3] {
		t.Errorf("an earlier pair is told: %v, %v", s, ok)
	}
}

// 2.7: of unlike lengths the last blocks are told, however many blocks there are.
func TestDescendUnlikeLengths(t *testing.T) {
	m := newModel(1)
	seen := map[api.Hash]string{}
	met := 0
	for n := range 400 {
		text := ordinary(n)
		h := hash.Sum(1, bytesOf(text))
		if old, ok := seen[h]; ok {
			met++
			checkDescend(t, m, 1, old, text)
			checkDescend(t, m, 1, text, old)
			s, _ := hash.Descend(1, bytesOf(old), bytesOf(text))
			ba, bb := blocks(old), blocks(text)
			if s.BlockA != ba[len(ba)-1] || s.BlockB != bb[len(bb)-1] {
				t.Errorf("of %d and %d bytes: not the last blocks", len(old), n)
			}
		}
		seen[h] = text
	}
	if met == 0 {
		t.Error("no two met")
	}
}

// 2.7: a width outside counts as 1, or as 32; two bytes are wide enough to meet, too.
func TestDescendWidths(t *testing.T) {
	a, b := meeting(t, 1, "", "")
	m := newModel(1)
	for _, w := range []int{1, 0, -1, math.MinInt} {
		if !checkDescend(t, m, w, a, b) {
			t.Errorf("width %d: false", w)
		}
	}
	m.width = 2
	a, b = meeting(t, 2, "ahead", ordinary(100))
	if !checkDescend(t, m, 2, a, b) {
		t.Error("width 2: false")
	}
	for _, w := range []int{32, 33, math.MaxInt} {
		if s, ok := hash.Descend(w, bytesOf(a), bytesOf(b)); ok || s != (api.Step{}) {
			t.Errorf("width %d: %v, %v", w, s, ok)
		}
	}
}

// R3: nothing behind the texts' lengths is read or written, they are not changed.
func TestDescendSpareRoom(t *testing.T) {
	a, b := meeting(t, 1, ordinary(50), ordinary(30))
	roomA, roomB := bytesOf(a+ordinary(200)), bytesOf(b+ordinary(150))
	before := bytes.Clone(roomA)
	want, _ := newModel(1).want(a, b)
	if s, ok := hash.Descend(1, roomA[:len(a)], roomB[:len(b)]); !ok || s != want {
		t.Errorf("with room behind: %v, %v", s, ok)
	}
	if !bytes.Equal(roomA, before) || !bytes.Equal(roomB, bytesOf(b+ordinary(150))) {
		t.Error("the texts, or what lies behind them, are others now")
	}
}
