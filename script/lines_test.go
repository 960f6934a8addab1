package script_test

import (
	"fmt"
	"strings"
	"testing"

	"massif/api"
	"massif/hash"
	"massif/script"
)

// Promise 19.1: texts without a command tell nothing.
func TestSilent(t *testing.T) {
	for _, text := range []string{"", "\n", "\n\n\n", " ", "    ", " \n  \n", "#", "##", "# ", "#x", "#append a", "# append a", "   # append a", " #\n\n#\n \n  #x", "#\n", "#\x00\xff\t", strings.Repeat(" ", 9000) + "#"} {
		tells(t, text)
	}
}

// Promise 19.1: the last line may lack its byte 10, or have it.
func TestLastLine(t *testing.T) {
	for _, x := range []struct {
		text string
		want []string
	}{
		{"append a", []string{"leaf 0"}},
		{"append a\n", []string{"leaf 0"}},
		{"append a\n\n", []string{"leaf 0"}},
		{"append a\n ", []string{"leaf 0"}},
		{"append a\n#", []string{"leaf 0"}},
		{"append a\nappend b", []string{"leaf 0", "leaf 1"}},
		{"append a\nappend b\n", []string{"leaf 0", "leaf 1"}},
		{"\nappend a", []string{"leaf 0"}},
		{"\n\n  \nappend a\n\n\nappend b\n\n", []string{"leaf 0", "leaf 1"}},
		{"frob", []string{"line 1: error 190"}},
		{"frob\n", []string{"line 1: error 190"}},
	} {
		tells(t, x.text, x.want...)
	}
}

// Promises 19.1 and 19.4: lines that say nothing are counted.
func TestLineNumbers(t *testing.T) {
	tells(t, "\n\nfrob\n", "line 3: error 190")
	tells(t, "#\n \n  # frob\nfrob\n\nfrob", "line 4: error 190", "line 6: error 190")
	tells(t, "append a\n\nfrob\n#\nappend b\nnode 9", "leaf 0", "line 3: error 190", "leaf 1", "line 6: error 31")
	var text, want strings.Builder
	for i := range 10000 {
		text.WriteString("frob\n")
		fmt.Fprintf(&want, "line %d: error 190\n", i+1)
	}
	sameText(t, "frob", script.Run(text.String()), want.String())
}

// Promise 19.1: one blank or more, ahead of words, between them and behind them.
func TestBlanks(t *testing.T) {
	for _, line := range []string{"batch -1 a b", " batch -1 a b", "batch  -1  a  b", "batch -1 a b ", "     batch   -1 a       b    ", strings.Repeat(" ", 1000) + "batch -1" + strings.Repeat(" ", 1000) + "a b"} {
		tells(t, lines(line, " size ", "  root"), told(t, "batch -1 a b", "size", "root")...)
	}
}

// Promise 19.1: bytes other than 32 and 10 are parts of words, whatever they look like.
func TestOtherBytes(t *testing.T) {
	for b := range 256 {
		if b != 10 && b != 32 {
			partOfWords(t, string([]byte{byte(b)}))
		}
	}
	for _, s := range []string{"\u0085", "\u00a0", "\u1680", "\u2003", "\u2028", "\u3000", "\ufeff", "é", "\xc2", "\xe2\x80", "\xff\xff", "\r\t\v\f", "\u00a0\t"} {
		partOfWords(t, s)
	}
}

// partOfWords holds that s parts no words, wherever it stands.
func partOfWords(t *testing.T, s string) {
	t.Helper()
	for _, text := range []string{s, "x" + s, s + "x", "x" + s + "y", s + s, "#" + s} {
		tells(t, lines("append "+text, "node 0"), "leaf 0", fmt.Sprintf("node 0x%x", hash.Leaf(32, []byte(text))))
	}
	for _, line := range []string{"size" + s, "append" + s + "a", "node 0" + s, "node" + s + "0", "size " + s, "many 0" + s + "1", "many" + s} {
		tells(t, lines("append a", line, "size"), "leaf 0", "line 2: error 190", "size 1 nodes 1 live 1 chunks 1")
	}
	if s == "#" { // a remark
		tells(t, lines(s, s+"size", s+" size"))
		return
	}
	tells(t, lines(s, s+"size", s+" size", s+"#"), refusal(1, api.ErrLine), refusal(2, api.ErrLine), refusal(3, api.ErrLine), refusal(4, api.ErrLine))
}

// Promise 19.1: a remark is a line whose first word begins with #; elsewhere # is a byte like others.
func TestRemarks(t *testing.T) {
	tells(t, lines("append #", "append a#", "hold #b", "size #", "append a # b", "x#", "#x append a", "batch -1 # #"),
		"leaf 0", "leaf 1", "leaf 2", "line 4: error 190", "line 5: error 190", "line 6: error 190", "whole 5")
	check(t, lines("append #", "append a#", "hold #b", "save", "batch 0 # #", "batch -1 # ##", "save"))
}

// Promise 19.1: as many bytes as may be, and one more, in scripts that do something.
func TestTooLong(t *testing.T) {
	ahead := lines("append a", "append b", "root")
	want := script.Run(ahead)
	for _, fill := range []string{" ", "#", "#\xff", "\x00"} {
		rest := strings.Repeat(fill, api.MaxText)[:api.MaxText-len(ahead)]
		more := ""
		if fill == "\x00" {
			more = "line 4: error 190\n"
		}
		sameText(t, fill, script.Run(ahead+rest), want+more)
		sameText(t, fill, script.Run(ahead+rest[:len(rest)-1]), want+more)
		sameText(t, fill, script.Run(ahead+rest[:len(rest)-1]+"\n"), want+more)
		sameText(t, fill, script.Run(ahead+rest+fill[:1]), "too long\n")
		sameText(t, fill, script.Run(ahead+rest+"\n"), "too long\n")
		sameText(t, fill, script.Run(ahead+rest+rest), "too long\n")
	}
}

// Promise 19.1: as many lines as may be, and one more, silent ones or not, the last one with a byte 10 or without.
func TestTooManyLines(t *testing.T) {
	most := api.MaxLines
	for _, line := range []string{"", "#", " ", "append a", "frob"} {
		for _, last := range []string{" ", "#", "append b", "frob", "x"} {
			just := lines(repeated(line, most-1)...) + last
			want := check(t, just)
			sameText(t, line, script.Run(just+"\n"), want)
			sameText(t, line, script.Run(just+"\n"+last), "too many lines\n")
			sameText(t, line, script.Run(just+"\n\n"), "too many lines\n")
			sameText(t, line, script.Run(just+"\n "), "too many lines\n")
			sameText(t, line, script.Run(just+"\n"+last+"\n"), "too many lines\n")
		}
	}
	tells(t, lines(repeated("", most-1)...)+"frob", "line 10000: error 190")
	tells(t, strings.Repeat("\n", most)+"frob", "too many lines")
	tells(t, strings.Repeat("\n", 100*most), "too many lines")
}

// Promise 19.1: too long is told ahead of too many lines.
func TestTooLongAndTooMany(t *testing.T) {
	tells(t, strings.Repeat("\n", api.MaxText), "too many lines")
	tells(t, strings.Repeat("\n", api.MaxText+1), "too long")
	tells(t, strings.Repeat("append a\n", api.MaxText/9), "too many lines")
	tells(t, strings.Repeat("append a\n", api.MaxText/9+1), "too long")
	tells(t, strings.Repeat("#", api.MaxText+1), "too long")
}

// Promises 19.1 to 19.3: words as long as a script may be.
func TestLongWords(t *testing.T) {
	text := strings.Repeat("abcdefg\x00", api.MaxText/8)[:api.MaxText-40]
	tells(t, lines("append "+text, "node 0"), "leaf 0", fmt.Sprintf("node 0x%x", hash.Leaf(32, []byte(text))))
	tells(t, text, "line 1: error 190")
	digits := strings.Repeat("1", api.MaxText-40)
	for _, line := range []string{"node ", "batch ", "batch -", "play 0 0 ", "load 0x", "many 0 ", "new 1 1 "} {
		want := "line 1: error 190"
		if line == "load 0x" {
			want = "line 1: error 14" // so many bytes, of another kind
		}
		tells(t, line+digits, want)
	}
	tells(t, "play 0 -1 "+strings.Repeat("-9,", api.MaxText/3-9)+"7 a b c", "whole 3")
}
