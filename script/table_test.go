package script_test

import (
	"fmt"
	"slices"
	"strings"
	"testing"

	"massif/api"
	"massif/hash"
	"massif/script"
)

// both runs a script, and holds what it tells against both models.
func both(t *testing.T, all ...string) []string {
	t.Helper()
	text := lines(all...)
	got := check(t, text)
	sameText(t, text, got, run(newPlain(t), text))
	return linesOf(got)
}

// everything are questions about all of a forest of up to n leaves, and about what it has not.
func everything(n int) []string {
	l := []string{"size", "root", "peaks", "pinned", "live", "held", "save", "many", "many" + upTo(n), "many" + upTo(n+1)}
	for i := range n + 2 {
		for _, name := range []string{"prove", "prefix", "fresh", "many", "many 0", "node"} {
			l = append(l, fmt.Sprintf("%s %d", name, i))
		}
		l = append(l, fmt.Sprintf("many %d %d", i/2, i), fmt.Sprintf("node %d", n+i))
	}
	return l
}

// upTo are the numbers below n, each behind a blank.
func upTo(n int) string {
	s := ""
	for i := range n {
		s += fmt.Sprintf(" %d", i)
	}
	return s
}

// grown are lines that append so many leaves, each third of which is held.
func grown(n int) []string {
	var l []string
	for i := range n {
		l = append(l, fmt.Sprintf("%s t%d", []string{"hold", "append", "append"}[i%3], i))
	}
	return l
}

// The examples of chapter 19.
func TestExamples(t *testing.T) {
	tells(t, "size", "size 0 nodes 0 live 0 chunks 0")
	tells(t, lines("append a", "hold b", "held", "frob"), "leaf 0", "leaf 1", "held 1", "line 4: error 190")
	tells(t, lines("batch -1 a b c", "size"), "whole 3", "size 3 nodes 4 live 4 chunks 1")
	tells(t, lines("close", "size", "close"), "ok", "line 2: error 140", "line 3: error 140")
	tells(t, lines("pin 0", "new 32 17 1", "append"), "line 1: error 32", "line 2: error 1", "line 3: error 190")
}

// Promise 19.3: where nothing stands behind a word, it stands alone.
func TestAlone(t *testing.T) {
	tells(t, lines("peaks", "pinned", "live", "held", "prune"), "peaks", "pinned", "live", "held", "pruned 0")
	tells(t, lines("hold a", "pin 0", "unpin 0", "leave 0", "pinned", "held"), "leaf 0", "pins 1", "pins 0", "ok", "pinned", "held")
	both(t, everything(2)...)
}

// Promise 19.3: what there is at first is what `new 32 3 2` leaves.
func TestAtFirst(t *testing.T) {
	for n := range 20 {
		all := append(grown(n), "play 0 0 1 x", "play 0 0 2 y", "size", "root", "peaks", "live", "held", "save")
		got, want := told(t, all...), told(t, append([]string{"new 32 3 2"}, all...)...)[1:]
		if !slices.Equal(got, want) {
			t.Fatalf("%d leaves: %q, want %q", n, got, want)
		}
		both(t, all...)
	}
	tells(t, lines(append(grown(9), "size")...), "leaf 0", "leaf 1", "leaf 2", "leaf 3", "leaf 4", "leaf 5", "leaf 6", "leaf 7", "leaf 8", "size 9 nodes 16 live 16 chunks 2")
}

// Promise 19.3: all that can be asked, at all small sizes, at several widths, logs and numbers of workers.
func TestEverything(t *testing.T) {
	for n := range 18 {
		for _, anew := range []string{"#", "new 32 3 2", "new 1 0 1", "new 2 16 64", "new 31 1 3", "new 0 2 2", "new -9223372036854775808 5 7", "new 33 4 1", "new 9223372036854775807 0 2"} {
			both(t, slices.Concat([]string{anew}, grown(n), everything(n))...)
		}
	}
}

// Promise 19.3: `new` begins everything anew, with each width, log and number of workers; those out of their bounds are
// error 1.
func TestNew(t *testing.T) {
	ahead := append(grown(5), "pin 1")
	for w := -2; w < 36; w++ {
		both(t, slices.Concat(ahead, []string{fmt.Sprintf("new %d 1 2", w)}, everything(1), grown(6), everything(6))...)
	}
	for log := -3; log < 20; log++ {
		got := both(t, slices.Concat(ahead, []string{fmt.Sprintf("new 32 %d 2", log)}, everything(5))...)
		sameText(t, "new", got[6], okOr(7, log >= 0 && log <= 16))
	}
	for workers := -3; workers < 70; workers++ {
		got := both(t, slices.Concat(ahead, []string{fmt.Sprintf("new 32 1 %d", workers)}, everything(5))...)
		sameText(t, "new", got[6], okOr(7, workers >= 1 && workers <= 64))
	}
	tells(t, lines("hold a", "pin 0", "new 32 3 2", "size", "held", "pinned", "fresh 0", "append b"), "leaf 0", "pins 1", "ok", "size 0 nodes 0 live 0 chunks 0", "held", "pinned", "line 7: error 32", "leaf 0")
}

// okOr is what a line with this number tells, if it is right, and with error 1 otherwise.
func okOr(number int, right bool) string {
	if right {
		return "ok"
	}
	return refusal(number, api.ErrArg)
}

// Promise 19.3: a leaf is chapter 2's Leaf of the bytes of its text, at the forest's width, by every line that appends.
func TestLeaves(t *testing.T) {
	for _, w := range []int{1, 2, 7, 31, 32} {
		for _, text := range []string{"a", "append", "0x61", "-1", "\x00\xff", strings.Repeat("z", 300)} {
			want := fmt.Sprintf("node 0x%x", hash.Leaf(w, []byte(text)))
			for _, line := range []string{"append ", "hold ", "batch -1 ", "play 0 -1 - ", "play 3 -1 7 "} {
				got := told(t, fmt.Sprintf("new %d 3 2", w), line+text, "node 0", line+text, "node 1")
				if got[2] != want || got[4] != want {
					t.Fatalf("width %d, %q: %q, want %q", w, line+text, got, want)
				}
			}
		}
	}
}

// Promise 19.3: `batch` at all small sizes, with all small numbers of texts, cancelled at once, midway and never.
func TestBatch(t *testing.T) {
	for n := range 9 {
		for k := range 9 {
			parts := len(spanOf(uint64(n), uint64(n+k)))
			for stop := -2; stop < 6; stop++ {
				line := fmt.Sprintf("batch %d%s", stop, strings.ReplaceAll(upTo(k), " ", " t"))
				got := both(t, slices.Concat(grown(n), []string{line}, everything(n+k))...)
				want := fmt.Sprintf("whole %d", n+k)
				if stop >= 0 && stop < parts {
					want = fmt.Sprintf("none %d", n)
				}
				sameText(t, line, got[n], want)
			}
		}
	}
	tells(t, lines("batch -9223372036854775808 a", "batch 9223372036854775807 b", "batch -1", "batch 0", "batch 1"), "whole 1", "whole 2", "whole 2", "whole 2", "whole 2")
}

// Promise 19.3: `play` with short picks of all kinds, with room and without, cancelled at once, midway, at the end and
// never.
func TestPlay(t *testing.T) {
	met := map[string]int{}
	for _, picks := range []string{"-", "0", "1", "-1", "2,2", "1,1,1", "0,-1", "5,4,3,2,1", "-9223372036854775808,9223372036854775807", "9,9,9,9,9,9,9,9,9,9,9,9"} {
		for _, room := range []int{0, 1, 3, 65536} {
			for cancel := -2; cancel < 14; cancel++ {
				for _, texts := range []string{"", " a", " a b", " a b c d e"} {
					line := fmt.Sprintf("play %d %d %s%s", room, cancel, picks, texts)
					got := both(t, slices.Concat([]string{"new 32 1 3"}, grown(3), []string{line}, everything(3), []string{line, "save"})...)
					met[wordsOf(got[4])[0]]++
					if texts == "" || cancel < 0 {
						sameText(t, line, got[4], fmt.Sprintf("whole %d", 3+len(texts)/2))
					}
				}
			}
		}
	}
	if met["whole"] < 50 || met["none"] < 50 {
		t.Errorf("met were %v", met)
	}
	tells(t, lines("batch -1 a b c", "batch -1 d e", "batch 1 x y z", "batch 0", "play 0 0 - x", "play 0 0 2,2 x", "size"), "whole 3", "whole 5", "none 5", "whole 5", "whole 6", "none 6", "size 6 nodes 10 live 10 chunks 2")
}

// crew are lines that tell how many workers there are: with a cancel at once and nobody busy the first moves are Give for
// each worker, and then the feeder quits.
func crew() []string {
	var l []string
	for k := range 66 {
		l = append(l, fmt.Sprintf("play 0 0 %d w", k))
	}
	return l
}

// workersTold is how many workers the answers to crew tell of, which have got through for all lower picks.
func workersTold(t *testing.T, got []string) int {
	t.Helper()
	k := slices.IndexFunc(got, func(s string) bool { return !strings.HasPrefix(s, "whole ") })
	if k < 0 || strings.HasPrefix(got[k], "line ") {
		t.Fatalf("workers are told by %q", got)
	}
	return k
}

// Promise 19.3: the forest has as many workers as were asked for, at first 2; `load` leaves as many, behind a close too;
// a `new` that is refused changes nothing.
func TestWorkers(t *testing.T) {
	for _, x := range []struct {
		ahead []string
		want  int
	}{
		{nil, 2},
		{[]string{"new 32 3 1"}, 1},
		{[]string{"new 32 3 5"}, 5},
		{[]string{"new 1 0 64"}, 64},
		{[]string{"new 32 3 7", "load 0x490203000000"}, 7},
		{[]string{"new 32 3 7", "close", "load 0x490203000000"}, 7},
		{[]string{"load 0x490203000000", "load 0x492010000000"}, 2},
		{[]string{"new 32 3 7", "new 32 3 65", "new 32 17 4", "new 32 3 0"}, 7},
		{[]string{"new 32 3 7", "load 0x", "append a", "close", "new 32 3 9"}, 9},
		{[]string{"new 32 3 7", "close", "new 32 3 65", "load 0x490203000000"}, 7},
	} {
		all := append(slices.Clone(x.ahead), crew()...)
		if got := workersTold(t, told(t, all...)[len(x.ahead):]); got != x.want {
			t.Errorf("behind %q there are %d workers, want %d", x.ahead, got, x.want)
		}
		check(t, lines(all...))
	}
}

// claims are lines check and reach of all leaves and prefixes of a forest that lines have led to.
func claims(t *testing.T, ahead []string, n int) []string {
	t.Helper()
	at := slices.Clone(ahead)
	for i := range n {
		at = append(at, fmt.Sprintf("prove %d", i), fmt.Sprintf("prefix %d", i))
	}
	got := told(t, append(at, "root")...)
	p := newPlain(t)
	run(p, lines(ahead...))
	root := got[len(at)][5:]
	var l []string
	for i := range n {
		member, prefix := got[len(ahead)+2*i], got[len(ahead)+2*i+1]
		l = append(l, fmt.Sprintf("check %d %d %s 0x%x %s", n, i, root, p.leaves[i], member[6:]))
		l = append(l, fmt.Sprintf("reach %d 0x%x %d %s %s", i, p.bag(uint64(i)), n, root, prefix[6:]))
	}
	return l
}

// Promise 19.3: `check` and `reach` accept what `prove` and `prefix` tell, at the forest's width, whatever forest there
// is, closed or not; at another width, or with a word of another line, they refuse it.
func TestAccepted(t *testing.T) {
	for n := 1; n < 12; n++ {
		for _, w := range []int{2, 32, 9} {
			ahead := append([]string{fmt.Sprintf("new %d 3 2", w)}, grown(n)...)
			asked := claims(t, ahead, n)
			for _, last := range [][]string{ahead, {ahead[0]}, {ahead[0], "close"}, append(slices.Clone(ahead), "prune", "close")} {
				got := both(t, append(slices.Clone(last), asked...)...)
				for i, s := range got[len(last):] {
					sameText(t, asked[i], s, "accepted")
				}
			}
			other := append([]string{"new 5 3 2"}, asked...)
			for i, s := range both(t, other...)[1:] {
				sameText(t, asked[i], s, refusal(i+2, api.ErrRoot))
			}
			for i := range asked {
				a, b := wordsOf(asked[i]), wordsOf(asked[(i+2)%len(asked)])
				for k := range a[1:] {
					both(t, ahead[0], with(a, k+1, b[k+1]))
				}
			}
		}
	}
}

// Promise 19.3, chapter 11's examples: pins and prunes.
func TestPins(t *testing.T) {
	got := both(t, "batch -1 a b c d e f g", "pin 1", "prune", "live", "prove 1", "prove 0", "prove 6", "pin 2", "prefix 4", "prefix 3", "unpin 1", "unpin 1", "prune", "live", "pin 6", "pin 6", "pin 4", "pinned", "unpin 6", "pinned", "size")
	for i, want := range map[int]string{1: "pins 1", 2: "pruned 6", 3: "live 0 5 6 9 10", 5: refusal(6, api.ErrPruned), 7: refusal(8, api.ErrPruned), 9: refusal(10, api.ErrPruned), 10: "pins 0", 11: refusal(12, api.ErrPin), 12: "pruned 2", 13: "live 6 9 10",
		14: "pins 1", 15: "pins 2", 16: refusal(17, api.ErrPruned), 17: "pinned 6", 18: "pins 1", 19: "pinned 6", 20: "size 7 nodes 11 live 3 chunks 2"} {
		sameText(t, "pins", got[i], want)
	}
	for _, i := range []int{4, 6, 8} {
		if !strings.HasPrefix(got[i], "proof 0x") {
			t.Errorf("line %d tells %q", i+1, got[i])
		}
	}
	for n := 1; n < 12; n++ {
		for i := range n {
			pin := fmt.Sprintf("pin %d", i)
			all := slices.Concat(grown(n), []string{pin, "pinned", "prune", "prune"}, everything(n), grown(7), []string{"prune", pin, "pinned"}, everything(n+7), []string{"un" + pin, "un" + pin, "un" + pin, "prune", "pinned"}, everything(n+7))
			both(t, all...)
		}
	}
}

// Promise 19.3: the flock holds what it was to hold, hears of all appends, and lets go of what leaves.
func TestFlock(t *testing.T) {
	both(t, "hold a", "held", "fresh 0", "append b", "fresh 0", "fresh 1", "batch -1 c d e", "held", "fresh 0", "hold f", "held", "play 0 -1 - g h", "fresh 5", "fresh 0", "leave 0", "held", "fresh 0", "leave 0", "batch 0 i", "fresh 5", "play 0 0 2,2 i", "fresh 5", "prune", "fresh 5", "held", "leave 5", "held")
	tells(t, lines("hold a", "append b", "hold c", "held", "leave 0", "held", "leave 2", "held", "leave 2"), "leaf 0", "leaf 1", "leaf 2", "held 0 2", "ok", "held 2", "ok", "held", "line 9: error 32")
	tells(t, lines("hold a", "fresh 0", "fresh 1", "leave 1"), "leaf 0", "proof 0x4d0100", "line 3: error 32", "line 4: error 32")
}

// saved is the Hex that `save` tells behind lines.
func saved(t *testing.T, ahead ...string) string {
	t.Helper()
	got := told(t, append(slices.Clone(ahead), "save")...)
	s, ok := strings.CutPrefix(got[len(ahead)], "image ")
	if !ok {
		t.Fatalf("%q: save tells %q", ahead, got)
	}
	return s
}

// Promise 19.3: `load` of what `save` told leads to the same forest, whatever there was, with a flock that holds nothing
// and follows from there on.
func TestSaveLoad(t *testing.T) {
	tells(t, lines("new 2 3 1", "save", "load 0x490203000000", "save"), "ok", "image 0x490203000000", "ok", "image 0x490203000000")
	for n := range 14 {
		for _, anew := range []string{"new 32 3 2", "new 1 0 1", "new 7 16 3"} {
			ahead := append([]string{anew}, grown(n)...)
			if n > 4 {
				ahead = append(ahead, "pin 1", "pin 4", "pin 4", "prune", "append x")
			}
			hex := saved(t, ahead...)
			for _, between := range [][]string{{}, {"hold y", "pin 0", "append z"}, {"new 5 5 5", "hold y"}, {"close"}, {"new 3 3 3", "hold y", "close"}} {
				got := both(t, slices.Concat(ahead, []string{"save"}, between, []string{"load " + hex, "held", "save", "hold q", "held"}, everything(n+2), []string{"batch -1 a b c"}, everything(n+5))...)
				at := len(ahead) + 1 + len(between)
				for i, want := range []string{"ok", "held", "image " + hex} {
					sameText(t, "load", got[at+i], want)
				}
				size := len(ahead) - 1
				if n > 4 {
					size = n + 1
				}
				sameText(t, "load", got[at+4], fmt.Sprintf("held %d", size))
			}
		}
	}
}

// Promise 19.3: what is loaded is another forest than that which was saved: what is done to one is not done to the other.
func TestLoadAgain(t *testing.T) {
	hex := saved(t, append(grown(9), "pin 2")...)
	got := both(t, slices.Concat(grown(9), []string{"pin 2", "save", "load " + hex, "append x", "unpin 2", "prune", "load " + hex}, everything(9), []string{"save"})...)
	sameText(t, "load", got[len(got)-1], "image "+hex)
	if script.Run(lines("load "+hex, "save")) != "ok\nimage "+hex+"\n" {
		t.Error("a script of its own tells another image")
	}
}
