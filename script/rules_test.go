package script_test

import (
	"runtime"
	"slices"
	"strings"
	"sync"
	"testing"
	"time"

	"massif/script"
)

// Rule R1: texts of drawn bytes, of all kinds and of those that scripts are made of, tell what the chapter's words say.
func TestAnyBytes(t *testing.T) {
	for seed := range 3000 {
		d := dice(seed)
		some := of(&d, "", "\n", " \n#", " \n\t#x-0", "abcdefghijklmnopqrstuvwxyz 0123456789x-,\n", "size\n \n", "0x-1 9,")
		b := make([]byte, d.roll(400))
		for i := range b {
			b[i] = byte(d.roll(256))
			if some != "" {
				b[i] = some[d.roll(len(some))]
			}
		}
		check(t, string(b))
	}
}

// Rule R1: lines of drawn words: names and words of all kinds, wherever they may stand.
func TestAnyWords(t *testing.T) {
	var words []string
	for _, f := range forms() {
		words = append(words, f.name)
	}
	names := len(words)
	for _, k := range []kind{aNumber, aCount, aText, somePicks, aHash, someBytes} {
		words = append(words, rightWords(k)...)
		words = append(words, wrongWords(k)...)
	}
	words = append(words, "0", "1", "2", "3", "-1", "0", "1", "2", "-", "a", "b")
	for seed := range 1500 {
		d := dice(seed)
		var b strings.Builder
		for range d.roll(60) {
			b.WriteString(words[d.roll(names)])
			for range d.roll(6) {
				b.WriteString(" " + of(&d, words[names:]...))
			}
			b.WriteString(of(&d, "\n", "\n", "\n", " ", "\n\n"))
		}
		check(t, b.String())
	}
}

// Rules R1 and W8: images and proofs with each of their bytes turned, in lines of a script.
func TestTurnedBytes(t *testing.T) {
	ahead := append([]string{"new 2 1 2"}, grown(5)...)
	hex := saved(t, append(slices.Clone(ahead), "pin 3", "prune")...)
	claim := wordsOf(claims(t, ahead, 5)[3])
	for _, x := range []struct {
		words []string
		at    int
	}{{[]string{"load", hex}, 1}, {claim, 2}, {claim, 4}, {claim, 5}} {
		word := x.words[x.at]
		for i := 2; i < len(word); i++ {
			for _, c := range []byte{'0', '1', '8', '9', 'f'} {
				turned := []byte(word)
				turned[i] = c
				check(t, lines(append(slices.Clone(ahead), with(x.words, x.at, string(turned)), "size", "hold a", "held", "save", "root")...))
			}
		}
	}
}

// scripts are some that use all of it.
func scripts(t *testing.T) []string {
	t.Helper()
	var l []string
	for seed := range 12 {
		l = append(l, drawn(t, 900+seed, 150).text.String())
	}
	for _, ahead := range states() {
		l = append(l, lines(slices.Concat(ahead, later())...))
	}
	return append(l, "", "size", lines("new 32 3 64", "batch -1"+texts(5000), "root", "batch 3"+texts(5000), "save"))
}

// Rule R4: a script tells the same whenever it is run, whatever others were run between.
func TestAgain(t *testing.T) {
	all := scripts(t)
	var first []string
	for _, text := range all {
		first = append(first, script.Run(text))
	}
	for range 3 {
		for i, text := range slices.Backward(all) {
			sameText(t, text, script.Run(text), first[i])
			sameText(t, text, script.Run(strings.Clone(text)), first[i])
		}
	}
}

// Rule R4: scripts that are run at the same time tell what each tells alone; no goroutine of theirs is left.
func TestBeside(t *testing.T) {
	all := scripts(t)
	want := make([]string, len(all))
	for i, text := range all {
		want[i] = script.Run(text)
	}
	time.Sleep(20 * time.Millisecond)
	before := runtime.NumGoroutine()
	got := make([]string, 4*len(all))
	var ended sync.WaitGroup
	for i := range got {
		ended.Go(func() { got[i] = script.Run(all[i%len(all)]) })
	}
	ended.Wait()
	for i, s := range got {
		sameText(t, all[i%len(all)], s, want[i%len(all)])
	}
	nobodyLeft(t, before)
}

// Rule R4: goroutines of batches have ended when a script has, cancelled or not.
func TestGoroutinesHaveEnded(t *testing.T) {
	time.Sleep(20 * time.Millisecond)
	before := runtime.NumGoroutine()
	for _, line := range []string{"batch -1", "batch 0", "batch 1", "batch 5", "play 0 0 -", "play 1 -1 -"} {
		for range 20 {
			script.Run(lines("new 32 3 64", "hold x", line+texts(900), line+texts(1000)))
		}
	}
	nobodyLeft(t, before)
}

// nobodyLeft waits, but not for long, till there are no more goroutines than before: one that has told its end may take a
// moment till it is counted no more.
func nobodyLeft(t *testing.T, before int) {
	t.Helper()
	for range 1000 {
		if runtime.NumGoroutine() <= before {
			return
		}
		time.Sleep(time.Millisecond)
	}
	t.Fatalf("%d goroutines are left", runtime.NumGoroutine()-before)
}

// Rule R4: what is told hangs on no number of workers, but where a loom is played.
func TestAnyWorkers(t *testing.T) {
	behind := slices.Concat(grown(4), []string{"batch -1 a b c d e", "batch 1 x y z", "play 0 -1 3,4,5 f g", "batch 0 x", "batch 7 h i j"}, everything(15))
	want := script.Run(lines(append([]string{"new 2 3 1"}, behind...)...))
	for _, anew := range []string{"new 2 3 2", "new 2 3 3", "new 2 3 17", "new 2 3 64"} {
		sameText(t, anew, script.Run(lines(append([]string{anew}, behind...)...)), want)
	}
}
