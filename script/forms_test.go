package script_test

import (
	"slices"
	"strings"
	"testing"

	"massif/api"
	"massif/script"
)

const zeros = "0000000000000000000000000000000000000000000000000000000000000000"

// rightWords are some of a kind, those at its ends too.
func rightWords(k kind) []string {
	counts := []string{"0", "1", "-1", "9", "10", "-10", "99", "1000000", "9223372036854775807", "-9223372036854775808", "9223372036854775806", "-9223372036854775807"}
	switch k {
	case aNumber:
		return []string{"0", "1", "9", "10", "99", "100", "4611686018427387904", "9223372036854775807", "9223372036854775808", "18446744073709551614", "18446744073709551615", "10000000000000000000"}
	case aCount:
		return counts
	case somePicks:
		return append(counts, "-", "0,0", "1,-1", "-1,-1", "5,4,3,2,1,0", "9223372036854775807,-9223372036854775808", "0,"+strings.Repeat("-7,", 500)+"3")
	case aText:
		return []string{"a", "-", "0", "0x", "#", ",", "\t", "\xff", "append", strings.Repeat("long", 100)}
	case aHash:
		return []string{"0x" + zeros, "0x" + strings.Repeat("f", 64), "0x" + strings.Repeat("0123456789abcdef", 4), "0x" + zeros[:63] + "1"}
	case someBytes:
		return []string{"0x", "0x00", "0xff", "0x0123456789abcdef", "0x4d", "0x490203000000", "0x" + zeros, "0x" + zeros + "00", "0x" + strings.Repeat("a9", 3000)}
	}
	return nil
}

// wrongWords are some that have another form.
func wrongWords(k kind) []string {
	signs := []string{"-", "+", "+0", "+1", "--1", "-+1", "-0", "-00", "00", "01", "007", "-01", "1-", "1+", "0-", "x", "1x", "x1", "0x1", "0x", "0x01", "1_0", "1e3", "1.0", "1.", ".1", "1,0", "0b1", "0o7", "\t1", "1\t", "1\r", "1\x00", "١", "１", "\xff", "#", "one", "00000000000000000001"}
	over := []string{"18446744073709551616", "18446744073709551625", "28446744073709551615", "99999999999999999999", "100000000000000000000", "340282366920938463463374607431768211456", strings.Repeat("9", 400), "018446744073709551615"}
	low := []string{"-9223372036854775809", "-9223372036854775818", "-18446744073709551615", "-18446744073709551616", "-" + strings.Repeat("9", 400), "-09223372036854775808"}
	odd := []string{"0", "x", "0X", "0X00", "00", "x00", "0x0", "0x000", "0xG0", "0xg0", "0x0g", "0xA0", "0x0A", "0xaF", "0xffg", "0x-1", "0x+1", "0x0x", "0x00,00", "0x0_0", "0x\t0", "-0x00", "+0x00", "#0x00", "0x00\r", "0x00\x00", "0x\xff\xff", "0x٠٠", "0x０"}
	switch k {
	case aNumber:
		return slices.Concat(signs, over, low, []string{"-1", "-9223372036854775808"})
	case aCount:
		return slices.Concat(signs, over, low, []string{"9223372036854775808", "9223372036854775809", "18446744073709551615"})
	case somePicks:
		l := []string{",", ",,", "1,", ",1", "1,,2", "-,1", "1,-", "-,-", "--", "1,-0", "1,01", "1,+2", "1;2", "1,2,", ",1,2", "1,x", "x,1", "1,9223372036854775808", "-9223372036854775809,0", "0,0x1", "1,\t2"}
		for _, s := range signs {
			if s != "-" && s != "1,0" {
				l = append(l, s, s+",1", "1,"+s)
			}
		}
		return append(l, over...)
	case aHash:
		l := slices.Clone(odd)
		for _, n := range []int{0, 1, 2, 32, 62, 63} {
			l = append(l, "0x"+zeros[:n])
		}
		return append(l, zeros, "0x"+zeros+"0", "0x"+zeros+"00", "0x"+zeros+zeros, "0X"+zeros, "0x"+strings.Repeat("F", 64), "0x"+zeros[1:]+"g", "0x"+zeros[1:]+"A", "0xG"+zeros[1:])
	case someBytes:
		return odd
	}
	return nil
}

// sample is a right word of a kind.
func sample(k kind) string { return rightWords(k)[0] }

// samples is a right line.
func (f form) samples() []string {
	words := []string{f.name}
	for _, k := range f.words {
		words = append(words, sample(k))
	}
	return words
}

// with is a line with another word at k.
func with(words []string, k int, word string) string {
	words = slices.Clone(words)
	words[k] = word
	return strings.Join(words, " ")
}

// states are scripts that lead to forests of all kinds.
func states() map[string][]string {
	some := []string{"new 32 1 3", "hold a", "append b", "batch -1 c d e f g", "hold h", "hold i", "pin 1", "pin 8", "pin 8", "prune", "append j", "hold k"}
	return map[string][]string{
		"nothing":         nil,
		"some":            some,
		"narrow":          append([]string{"new 1 0 1"}, some[1:]...),
		"closed":          append(slices.Clone(some), "close"),
		"closed at first": {"close"},
		"loaded":          {"hold x", "load 0x490200010100" + "07" + zeros[2:] + "010001", "hold y"},
	}
}

// isLine tells whether a line, behind others of which none is silent, tells something else than ErrLine; it tells what the
// packages below answer.
func isLine(t *testing.T, ahead []string, line string) bool {
	t.Helper()
	all := append(slices.Clone(ahead), line)
	got := linesOf(check(t, lines(all...)))
	if len(got) != len(all) {
		t.Fatalf("%q tell %q", all, got)
	}
	return got[len(ahead)] != refusal(len(all), api.ErrLine)
}

// Promises 19.2 and 19.4: of each line each word in each right form and each wrong one; with right ones whatever comes is
// what the packages below answer, with a wrong one ErrLine, the forest closed or not.
func TestForms(t *testing.T) {
	for when, ahead := range states() {
		for _, f := range forms() {
			words := f.samples()
			if f.more != nothing {
				words = append(words, sample(f.more), sample(f.more))
			}
			for i := range words[1:] {
				k := f.more
				if i < len(f.words) {
					k = f.words[i]
				}
				for _, word := range rightWords(k) {
					if line := with(words, i+1, word); !isLine(t, ahead, line) {
						t.Errorf("%s: %q is no line", when, line)
					}
				}
				for _, word := range wrongWords(k) {
					if line := with(words, i+1, word); isLine(t, ahead, line) {
						t.Errorf("%s: %q is a line", when, line)
					}
				}
			}
		}
	}
}

// Promises 19.3 and 19.4: of each line too few words and too many.
func TestNumberOfWords(t *testing.T) {
	for when, ahead := range states() {
		for _, f := range forms() {
			words := f.samples()
			for k := range words[1:] {
				if line := strings.Join(words[:k+1], " "); isLine(t, ahead, line) {
					t.Errorf("%s: %q is a line", when, line)
				}
			}
			for _, more := range [][]string{{}, {"1"}, {"0", "1"}, {"0", "1", "2"}, {"0x"}, {"a"}, {"#"}, {"-"}} {
				line := strings.Join(slices.Concat(words, more), " ")
				right := len(more) == 0 || f.more == aText || f.more == aNumber && numberForm.MatchString(more[0])
				if isLine(t, ahead, line) != right {
					t.Errorf("%s: is %q a line? %v", when, line, !right)
				}
			}
		}
	}
}

// Promise 19.4: a first word that is none of the names: in great letters, with a letter more or less, a word of another
// kind; right and wrong words behind it.
func TestNames(t *testing.T) {
	bad := []string{"frob", "-", "0", "1", "0x", "0x00", ",", "line", "ok", "error", "leaf", "proof", "accepted", "whole", "none", "pins", "Append", "nEW", "new,", "new:", "size.", "\tsize", "size\t", "size\x00", "\"size\"", "sіze"}
	for _, f := range forms() {
		bad = append(bad, strings.ToUpper(f.name), strings.ToUpper(f.name[:1])+f.name[1:], f.name+"x", f.name+f.name, "x"+f.name, f.name[1:], f.name[:len(f.name)-1])
	}
	for when, ahead := range states() {
		for _, name := range bad {
			for _, behind := range []string{"", " 0", " a b", " 0x", " -1 3 2", " #"} {
				if isLine(t, ahead, name+behind) {
					t.Errorf("%s: %q is a line", when, name+behind)
				}
			}
		}
	}
}

// Promise 19.2: numbers that are told, and hashes and bytes, are written as they are read.
func TestToldForms(t *testing.T) {
	for seed := range 40 {
		for _, line := range linesOf(script.Run(drawn(t, 500+seed, 100).text.String())) {
			words := wordsOf(line)
			if strings.Join(words, " ") != line {
				t.Fatalf("blanks in %q", line)
			}
			for i, word := range words[1:] {
				_, isHex := bytesIn(word)
				_, isCount := countOf(strings.TrimSuffix(word, ":"))
				isWord := slices.Contains([]string{"nodes", "live", "chunks", "error"}, word)
				if !isHex && !isCount && !isWord {
					t.Fatalf("word %d of %q", i+1, line)
				}
				if isHex && words[0] != "proof" && words[0] != "image" && len(word) != 66 {
					t.Fatalf("a hash of %q", line)
				}
			}
		}
	}
}
