package script_test

import (
	"fmt"
	"strings"
	"testing"

	"massif/script"
)

// drawer draws scripts line by line, each from what the lines so far have led to.
type drawer struct {
	dice
	p      *plain
	number int      // of the last line
	checks []string // lines check and reach that were accepted once
	images []string // what was saved
	text   strings.Builder
	want   strings.Builder
	met    map[string]int // how often the first word of what is told, or an error, came
}

func newDrawer(t *testing.T, seed int) *drawer {
	return &drawer{dice: dice(seed), p: newPlain(t), met: map[string]int{}}
}

// write puts a line behind the script, and what it tells behind what the script should tell.
func (d *drawer) write(line string) string {
	d.number++
	d.text.WriteString(line + "\n")
	s, ok := tell(d.p, line, d.number)
	if ok {
		d.want.WriteString(s + "\n")
		d.met[met(s)]++
	}
	return s
}

// met is the first word of what is told, or the error.
func met(s string) string {
	if i := strings.Index(s, "error "); i >= 0 {
		return s[i:]
	}
	return wordsOf(s)[0]
}

// index draws a leaf, or one that is not there.
func (d *drawer) index() int { return d.roll(len(d.p.leaves) + 2) }

// texts draws up to so many.
func (d *drawer) texts(most int) string {
	s := ""
	for range d.roll(most + 1) {
		s += " " + d.word()
	}
	return s
}

// word draws a text, sometimes one of odd bytes.
func (d *drawer) word() string {
	if d.roll(9) == 0 {
		return of(&d.dice, "#", "0x", "-1", "\t", "\x00", "\xff\xfe", "\r", "é", "\u00a0", "append", "\u0085")
	}
	return fmt.Sprintf("t%d", d.roll(1000))
}

// growth draws a line that appends, or is cancelled.
func (d *drawer) growth() string {
	switch d.roll(5) {
	case 0:
		return "append " + d.word()
	case 1, 2:
		return "hold " + d.word()
	case 3:
		return fmt.Sprintf("batch %d%s", of(&d.dice, -1, -1, -9, 0, 1, 2, 5), d.texts(9))
	}
	picks := "-"
	if n := d.roll(12); n > 0 {
		picks = fmt.Sprint(d.roll(200) - 100)
		for range n - 1 {
			picks += fmt.Sprintf(",%d", d.roll(200)-100)
		}
	}
	return fmt.Sprintf("play %d %d %s%s", d.roll(4), of(&d.dice, -1, -5, 0, 1, 3, 9), picks, d.texts(9))
}

// question draws a line that changes nothing.
func (d *drawer) question() string {
	name := of(&d.dice, "size", "root", "peaks", "pinned", "live", "held", "save", "prove", "prefix", "fresh", "node", "many")
	switch name {
	case "prove", "prefix", "fresh":
		return fmt.Sprintf("%s %d", name, d.index())
	case "node":
		return fmt.Sprintf("node %d", d.roll(2*len(d.p.leaves)+2))
	case "many":
		line, i := "many", 0
		for range d.roll(5) {
			i += d.roll(len(d.p.leaves)/2 + 1)
			line += fmt.Sprintf(" %d", i)
			i += of(&d.dice, 1, 1, 1, 1, 0)
		}
		return line
	}
	return name
}

// change draws a line that changes something other than the leaves.
func (d *drawer) change() string {
	switch d.roll(12) {
	case 0, 1, 2:
		return fmt.Sprintf("pin %d", d.index())
	case 3, 4:
		return fmt.Sprintf("unpin %d", d.index())
	case 5:
		return "prune"
	case 6, 7:
		return fmt.Sprintf("leave %d", d.index())
	case 8:
		return "close"
	case 9:
		return fmt.Sprintf("new %d %d %d", of(&d.dice, -1, 1, 2, 7, 31, 32, 99), of(&d.dice, -1, 0, 1, 3, 5, 16, 17), of(&d.dice, 0, 1, 2, 3, 64, 65))
	}
	if len(d.images) == 0 {
		return "load 0x"
	}
	image := of(&d.dice, d.images...)
	switch d.roll(5) {
	case 0:
		return "load " + image[:2+2*d.roll(len(image)/2-1)] // cut anywhere
	case 1:
		return "load " + image + "00"
	}
	return "load " + image
}

// claim writes lines that make a proof, and then asks whether it is accepted; or draws such a question that was asked
// before, as it was or with a word of another one.
func (d *drawer) claim() {
	if len(d.checks) > 0 && d.roll(3) > 0 {
		words := wordsOf(of(&d.dice, d.checks...))
		if d.roll(2) == 0 {
			other := wordsOf(of(&d.dice, d.checks...))
			k := d.roll(len(words))
			words[k] = other[k]
		}
		d.write(strings.Join(words, " "))
		return
	}
	n := d.p.size()
	if n == 0 || d.p.shut {
		return
	}
	i := uint64(d.roll(int(n)))
	line := ""
	if d.roll(2) == 0 {
		if s := d.write(fmt.Sprintf("prove %d", i)); strings.HasPrefix(s, "proof ") {
			line = fmt.Sprintf("check %d %d 0x%x 0x%x %s", n, i, d.p.bag(n), d.p.leaves[i], s[6:])
		}
	} else if s := d.write(fmt.Sprintf("prefix %d", i)); strings.HasPrefix(s, "proof ") {
		line = fmt.Sprintf("reach %d 0x%x %d 0x%x %s", i, d.p.bag(i), n, d.p.bag(n), s[6:])
	}
	if line != "" {
		d.checks = append(d.checks, line)
		d.write(line)
	}
}

// wrong is a line with words that were taken out, put in, or changed, or with blanks.
func (d *drawer) wrong(line string) string {
	words := wordsOf(line)
	k := d.roll(len(words))
	switch d.roll(6) {
	case 0:
		words = append(words[:k:k], words[k+1:]...)
	case 1:
		words = append(words, of(&d.dice, "0", "x", "-1", "0x", "#"))
	case 2:
		words[k] = of(&d.dice, "", "00", "-0", "+1", "1,", "0X", "0xA0", "18446744073709551616", "-9223372036854775809", "\t", strings.ToUpper(words[k]))
	case 3:
		words[k] += of(&d.dice, "0", ",", "\t", "\r", "-", "x")
	case 4:
		return of(&d.dice, "", " ", "#", "  # "+line, "#"+line)
	}
	return of(&d.dice, "", " ", "   ") + strings.Join(words, of(&d.dice, " ", "  ", "    ")) + of(&d.dice, "", " ", "  ")
}

// line draws one, or some.
func (d *drawer) line() {
	line := ""
	switch r := d.roll(20); {
	case d.p.shut && d.roll(4) == 0: // so that it is not closed for long
		line = of(&d.dice, "new 32 0 2", "new 1 2 3", "new 2 16 64")
	case r < 6 && len(d.p.leaves) < 200:
		line = d.growth()
	case r < 12:
		line = d.question()
	case r < 16:
		line = d.change()
	default:
		d.claim()
		return
	}
	if d.roll(6) == 0 {
		line = d.wrong(line)
	}
	if s := d.write(line); strings.HasPrefix(s, "image ") {
		d.images = append(d.images, s[6:])
	}
}

// drawn is a script of so many lines or some more, and what it should tell.
func drawn(t *testing.T, seed, lines int) *drawer {
	t.Helper()
	d := newDrawer(t, seed)
	for d.number < lines {
		d.line()
	}
	return d
}

// Promises 19.1 to 19.4, W1: scripts that are drawn, right lines and wrong ones, tell what the plain model says, and what
// the calls of the packages below answer.
func TestDrawn(t *testing.T) {
	met := map[string]int{}
	for seed := range 300 {
		d := drawn(t, seed, 120)
		sameText(t, d.text.String(), script.Run(d.text.String()), d.want.String())
		check(t, d.text.String())
		for s, n := range d.met {
			met[s] += n
		}
	}
	for _, s := range []string{"ok", "leaf", "whole", "none", "size", "root", "peaks", "node", "proof", "accepted", "pins", "pinned", "pruned", "live", "held", "image",
		"error 1", "error 11", "error 13", "error 30", "error 31", "error 32", "error 50", "error 52", "error 71", "error 80", "error 140", "error 190"} {
		if met[s] < 20 {
			t.Errorf("%q was told %d times in what was drawn", s, met[s])
		}
	}
}

// Promises 19.1 to 19.4, W1: scripts that grow for long.
func TestDrawnLong(t *testing.T) {
	for seed := range 4 {
		d := drawn(t, 1000+seed, 2500)
		sameText(t, d.text.String(), script.Run(d.text.String()), d.want.String())
	}
}
