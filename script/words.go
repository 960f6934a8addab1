package script

import (
	"strconv"
	"strings"

	"massif/api"
)

// words are those of a line that were not read yet. Where one is lacking, or has another form than it is read in, any
// value is read: end tells of it before something is done with it.
type words struct {
	left  []string
	wrong bool
}

// wordsOf are the words of a line: no other byte than 32 parts them.
func wordsOf(line string) *words {
	return &words{left: strings.FieldsFunc(line, func(r rune) bool { return r == ' ' })}
}

// silent tells whether they say nothing.
func (w *words) silent() bool { return len(w.left) == 0 || strings.HasPrefix(w.left[0], "#") }

// end tells whether all words were read, and each of them in its form.
func (w *words) end() api.Errno {
	if w.wrong || len(w.left) > 0 {
		return api.ErrLine
	}
	return api.OK
}

func (w *words) must(right bool) { w.wrong = w.wrong || !right }

func (w *words) text() string {
	if len(w.left) == 0 {
		w.wrong = true
		return ""
	}
	s := w.left[0]
	w.left = w.left[1:]
	return s
}

func (w *words) number() uint64 {
	s := w.text()
	x, err := strconv.ParseUint(s, 10, 64)
	w.must(err == nil && s == decimal(x)) // a number is written in one way alone
	return x
}

func (w *words) count() int { return w.countIn(w.text()) }

// countIn reads a word, or a piece of one.
func (w *words) countIn(s string) int {
	x, err := strconv.ParseInt(s, 10, 64)
	w.must(err == nil && s == strconv.FormatInt(x, 10)) // likewise: -0 and +1 are not
	return int(x)
}

// picks are counts in one word.
func (w *words) picks() []int {
	s := w.text()
	if s == "-" {
		return nil
	}
	var all []int
	for _, piece := range strings.Split(s, ",") {
		all = append(all, w.countIn(piece))
	}
	return all
}

func (w *words) hex() []byte {
	s, ok := strings.CutPrefix(w.text(), "0x")
	w.must(ok && len(s)%2 == 0)
	b := make([]byte, len(s)/2)
	for i := range b {
		high, low := strings.IndexByte(digits, s[2*i]), strings.IndexByte(digits, s[2*i+1])
		w.must(high >= 0 && low >= 0)
		b[i] = byte(high<<4 | low)
	}
	return b
}

func (w *words) hash() api.Hash {
	var h api.Hash
	b := w.hex()
	w.must(len(b) == len(h))
	copy(h[:], b)
	return h
}

// numbers are all words that are left.
func (w *words) numbers() []uint64 {
	var all []uint64
	for len(w.left) > 0 {
		all = append(all, w.number())
	}
	return all
}

// texts are all words that are left, whatever they are.
func (w *words) texts() []string {
	all := w.left
	w.left = nil
	return all
}
