package script_test

import (
	"encoding/hex"
	"fmt"
	"math/big"
	"regexp"
	"slices"
	"strings"
	"testing"

	"massif/api"
	"massif/script"
)

const (
	most  = uint64(api.MaxLeaves)
	crowd = api.MaxFlock
)

// lines puts a script together, with a byte 10 behind each line.
func lines(all ...string) string {
	if len(all) == 0 {
		return ""
	}
	return strings.Join(all, "\n") + "\n"
}

// told is what each of these lines tells, where none is silent.
func told(t *testing.T, all ...string) []string {
	t.Helper()
	got := cutAt(script.Run(lines(all...)), 10)
	if len(got) != len(all)+1 || got[len(all)] != "" {
		t.Fatalf("%q tell %q", all, got)
	}
	return got[:len(all)]
}

// tells holds what a script tells against these lines.
func tells(t *testing.T, text string, want ...string) {
	t.Helper()
	sameText(t, text, script.Run(text), lines(want...))
}

// sameText holds what a script has told against what it should, and shows the first line that is another one.
func sameText(t *testing.T, text, got, want string) {
	t.Helper()
	if got == want {
		return
	}
	a, b := cutAt(got, 10), cutAt(want, 10)
	for i := range max(len(a), len(b)) {
		if i >= len(a) || i >= len(b) || a[i] != b[i] {
			t.Fatalf("%.3000q:\nline %d of what is told is %.300q, want %.300q", text, i+1, a[min(i, len(a)):min(i+1, len(a))], b[min(i, len(b)):min(i+1, len(b))])
		}
	}
}

// refusal is what a line with this number tells with this error.
func refusal(number int, e api.Errno) string { return fmt.Sprintf("line %d: error %d", number, int(e)) }

// repeated is a line again and again.
func repeated(line string, times int) []string { return slices.Repeat([]string{line}, times) }

// cutAt is what stands between the bytes by, byte by byte.
func cutAt(text string, by byte) []string {
	var l []string
	begin := 0
	for i := range len(text) {
		if text[i] == by {
			l, begin = append(l, text[begin:i]), i+1
		}
	}
	return append(l, text[begin:])
}

// linesOf are a script's lines by the words of 19.1.
func linesOf(text string) []string {
	l := cutAt(text, 10)
	if l[len(l)-1] == "" {
		return l[:len(l)-1]
	}
	return l
}

// wordsOf are a line's words by the words of 19.1.
func wordsOf(line string) []string {
	return slices.DeleteFunc(cutAt(line, 32), func(s string) bool { return s == "" })
}

// kind is a form that a word has.
type kind int

const (
	nothing kind = iota
	aNumber
	aCount
	aText
	somePicks
	aHash
	someBytes
)

// form is what stands behind a command's name: words of these kinds, and then, where more is not nothing, any number of
// words of that kind.
type form struct {
	name   string
	words  []kind
	more   kind
	goesOn bool // where the forest is closed
}

// forms are those of the table of 19.3.
func forms() []form {
	return []form{
		{"new", []kind{aCount, aCount, aCount}, nothing, true},
		{"append", []kind{aText}, nothing, false},
		{"hold", []kind{aText}, nothing, false},
		{"batch", []kind{aCount}, aText, false},
		{"play", []kind{aCount, aCount, somePicks}, aText, false},
		{"size", nil, nothing, false},
		{"root", nil, nothing, false},
		{"peaks", nil, nothing, false},
		{"node", []kind{aNumber}, nothing, false},
		{"prove", []kind{aNumber}, nothing, false},
		{"prefix", []kind{aNumber}, nothing, false},
		{"many", nil, aNumber, false},
		{"check", []kind{aNumber, aNumber, aHash, aHash, someBytes}, nothing, true},
		{"reach", []kind{aNumber, aHash, aNumber, aHash, someBytes}, nothing, true},
		{"pin", []kind{aNumber}, nothing, false},
		{"unpin", []kind{aNumber}, nothing, false},
		{"pinned", nil, nothing, false},
		{"prune", nil, nothing, false},
		{"live", nil, nothing, false},
		{"held", nil, nothing, true},
		{"fresh", []kind{aNumber}, nothing, true},
		{"leave", []kind{aNumber}, nothing, true},
		{"save", nil, nothing, false},
		{"load", []kind{someBytes}, nothing, true},
		{"close", nil, nothing, false},
	}
}

// formOf is the one with this name.
func formOf(name string) (form, bool) {
	for _, f := range forms() {
		if f.name == name {
			return f, true
		}
	}
	return form{}, false
}

// values are what the words behind a name say, those of each kind in their order.
type values struct {
	numbers []uint64
	counts  []int
	texts   []string
	picks   []int
	hashes  []api.Hash
	bytes   []byte
}

// read reads words; false, if their number or their forms are others.
func (f form) read(words []string) (values, bool) {
	var v values
	if len(words) < len(f.words) || len(words) > len(f.words) && f.more == nothing {
		return v, false
	}
	for i, word := range words {
		k := f.more
		if i < len(f.words) {
			k = f.words[i]
		}
		if !v.take(k, word) {
			return v, false
		}
	}
	return v, true
}

var (
	numberForm = regexp.MustCompile(`^(0|[1-9][0-9]*)$`)
	countForm  = regexp.MustCompile(`^(0|-?[1-9][0-9]*)$`)
	hexForm    = regexp.MustCompile(`^0x([0-9a-f][0-9a-f])*$`)
)

// take reads a word by the words of 19.2.
func (v *values) take(k kind, word string) bool {
	switch k {
	case aNumber:
		x, ok := new(big.Int).SetString(word, 10)
		v.numbers = append(v.numbers, 0)
		if !numberForm.MatchString(word) || !ok || !x.IsUint64() {
			return false
		}
		v.numbers[len(v.numbers)-1] = x.Uint64()
	case aCount:
		x, ok := countOf(word)
		v.counts = append(v.counts, x)
		return ok
	case aText:
		v.texts = append(v.texts, word)
	case somePicks:
		return v.takePicks(word)
	case aHash:
		b, ok := bytesIn(word)
		if !ok || len(b) != 32 {
			return false
		}
		v.hashes = append(v.hashes, api.Hash(b))
	case someBytes:
		var ok bool
		v.bytes, ok = bytesIn(word)
		return ok
	}
	return k != nothing
}

func (v *values) takePicks(word string) bool {
	if word == "-" {
		return true
	}
	for _, piece := range cutAt(word, ',') {
		x, ok := countOf(piece)
		if !ok {
			return false
		}
		v.picks = append(v.picks, x)
	}
	return true
}

func countOf(word string) (int, bool) {
	x, ok := new(big.Int).SetString(word, 10)
	if !countForm.MatchString(word) || !ok || !x.IsInt64() {
		return 0, false
	}
	return int(x.Int64()), true
}

func bytesIn(word string) ([]byte, bool) {
	if !hexForm.MatchString(word) {
		return nil, false
	}
	b, err := hex.DecodeString(word[2:])
	return b, err == nil
}

// model is what lines speak of, in one way or another.
type model interface {
	closed() bool
	answer(name string, v values) (string, api.Errno) // of a line whose words are right, where the forest is open or it goes on
}

// tell is what a line with this number tells, and whether it tells anything, by the words of 19.1 and 19.4.
func tell(m model, line string, number int) (string, bool) {
	words := wordsOf(line)
	if len(words) == 0 || words[0][0] == '#' {
		return "", false
	}
	f, ok := formOf(words[0])
	var v values
	if ok {
		v, ok = f.read(words[1:])
	}
	if !ok {
		return refusal(number, api.ErrLine), true
	}
	if m.closed() && !f.goesOn {
		return refusal(number, api.ErrClosed), true
	}
	s, e := m.answer(f.name, v)
	if e != api.OK {
		return refusal(number, e), true
	}
	return s, true
}

// run is what a script tells by a model of which it is the first one.
func run(m model, text string) string {
	if len(text) > 1048576 {
		return "too long\n"
	}
	all := linesOf(text)
	if len(all) > 10000 {
		return "too many lines\n"
	}
	var b strings.Builder
	for i, line := range all {
		if s, ok := tell(m, line, i+1); ok {
			b.WriteString(s + "\n")
		}
	}
	return b.String()
}

// check runs a script, and holds what it tells against the calls of the packages below.
func check(t *testing.T, text string) string {
	t.Helper()
	got := script.Run(text)
	sameText(t, text, got, run(newCalls(t), text))
	return got
}

// list is a word with others behind it.
func list[T any](word string, all []T, format string) string {
	for _, x := range all {
		word += fmt.Sprintf(" "+format, x)
	}
	return word
}

// dice are numbers that are drawn by a rule, the same in every run.
type dice uint64

func (d *dice) roll(n int) int {
	*d = *d*6364136223846793005 + 1442695040888963407
	return int(uint64(*d>>33) % uint64(n))
}

// of draws one of some.
func of[T any](d *dice, some ...T) T { return some[d.roll(len(some))] }
