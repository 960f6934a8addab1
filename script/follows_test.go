package script_test

import (
	"fmt"
	"maps"
	"slices"
	"strings"
	"testing"

	"massif/api"
	"massif/script"
)

// begins holds that what a script tells begins with what its first part tells alone.
func begins(t *testing.T, first, second string) {
	t.Helper()
	alone, together := script.Run(first), script.Run(first+second)
	if !strings.HasPrefix(together, alone) {
		t.Fatalf("%.2000q tells %.300q, and with %.2000q behind it %.300q", first, alone, second, together)
	}
}

// Promise 19.5: scripts that are cut at every line.
func TestCutAtEveryLine(t *testing.T) {
	for seed := range 25 {
		text := drawn(t, 100+seed, 100).text.String()
		for k := range text {
			if text[k] == 10 {
				begins(t, text[:k+1], text[k+1:])
			}
		}
	}
	for _, ahead := range states() {
		all := slices.Concat(ahead, later())
		for k := range all {
			begins(t, lines(all[:k]...), lines(all[k:]...))
			begins(t, lines(all[:k]...), strings.Join(all[k:], "\n"))
		}
	}
}

// Promise 19.5: unlike scripts behind one, among them such as say nothing, or nothing right.
func TestScriptsBehind(t *testing.T) {
	for seed := range 25 {
		first := drawn(t, 200+seed, 60).text.String()
		for _, second := range []string{"", "\n", " ", "#", "frob", "\x00", "close", "new 1 0 1", "new 1 17 1\n", "load 0x", drawn(t, 300+seed, 60).text.String(), first, strings.Repeat("append a\n", 500)} {
			begins(t, first, second)
		}
	}
}

// Promise 19.5: together they may be as long, and have as many lines, as a script may.
func TestTogetherAtTheBounds(t *testing.T) {
	first := lines("append a", "root", "frob")
	begins(t, first, strings.Repeat("append b\n", api.MaxLines-3))
	begins(t, first, strings.Repeat("\n", api.MaxLines-3))
	begins(t, first, strings.Repeat("#", api.MaxText-len(first)))
	sameText(t, first, script.Run(first+strings.Repeat("\n", api.MaxLines-2)), "too many lines\n")
	sameText(t, first, script.Run(first+strings.Repeat("#", api.MaxText-len(first)+1)), "too long\n")
}

// sizes are lines that lead to forests of n leaves, of which some are held, pinned or pruned.
func sizes(n int) [][]string {
	l := [][]string{grown(n), append([]string{"new 1 0 1"}, grown(n)...), append(grown(n), "prune")}
	if n > 2 {
		l = append(l, append(grown(n), "pin 1", "pin 2", "prune"), append(grown(n), "leave 0", "pin 0", "prune", "unpin 0"))
	}
	return l
}

// Promise 19.6: behind a `batch` with a STOP below 0, and behind a `play` that is whole, everything is told as behind
// `append` of each text. Remarks stand for the lines that there are fewer of.
func TestOneByOne(t *testing.T) {
	for n := range 10 {
		for k := range 9 {
			names := strings.ReplaceAll(upTo(k), " ", " n")
			for _, ahead := range sizes(n) {
				one := slices.Clone(ahead)
				for i := range k {
					one = append(one, fmt.Sprintf("append n%d", i))
				}
				one = append(one, "#")
				behind := slices.Concat(everything(n+k), []string{"hold z", "batch -1 y x", "prune"}, everything(n+k+3))
				want := strings.TrimPrefix(script.Run(lines(append(one, behind...)...)), script.Run(lines(one...)))
				for _, line := range []string{"batch -1", "batch -9223372036854775808", "play 0 -1 -", "play 2 -1 3,-1,4,-1,5,-9", "play 0 0 -", "play 65536 -7 9,8,7,6,5,4,3,2,1"} {
					all := slices.Concat(ahead, []string{line + names}, repeated("#", k))
					first := script.Run(lines(all...))
					if !strings.HasSuffix(first, fmt.Sprintf("whole %d\n", n+k)) {
						t.Fatalf("%q tells %q", line+names, first)
					}
					got := strings.TrimPrefix(script.Run(lines(append(all, behind...)...)), first)
					sameText(t, lines(append(all, behind...)...), got, want)
				}
			}
		}
	}
}

// Promise 19.6: batches of many texts, with one worker and with many.
func TestOneByOneMany(t *testing.T) {
	const k = 600
	names := strings.ReplaceAll(upTo(k), " ", " n")
	one := append([]string{"hold x"}, strings.Split(strings.TrimPrefix(strings.ReplaceAll(names, " n", "\nappend n"), "\n"), "\n")...)
	asked := []string{"size", "root", "peaks", "live", "save", "fresh 0"}
	for i := range k + 2 {
		asked = append(asked, fmt.Sprintf("prove %d", i), fmt.Sprintf("node %d", 2*i), fmt.Sprintf("prefix %d", i))
	}
	for _, anew := range []string{"new 32 3 1", "new 2 5 2", "new 32 0 64"} {
		first := append([]string{anew}, one...)
		want := strings.TrimPrefix(script.Run(lines(append(first, asked...)...)), script.Run(lines(first...)))
		for _, line := range []string{"batch -1", "play 0 -1 7,6,5,4,3,2,1", "play 9 -1 -"} {
			all := append([]string{anew, "hold x", line + names}, repeated("#", k-1)...)
			sameText(t, line, script.Run(lines(append(all, asked...)...)), script.Run(lines(all...))+want)
		}
	}
}

// Promises 19.6 and 15.5: a batch that is none leaves everything as it was.
func TestNoneChangesNothing(t *testing.T) {
	for when, ahead := range states() {
		if strings.HasPrefix(when, "closed") {
			continue
		}
		for _, line := range []string{"batch 0 x", "batch 0 x y z", "batch 1 p q r s t u v", "play 0 0 -1,-1,-1,-1 x", "play 0 1 0,-1,-1,-1,-1 x", "play 0 1 0,-1,-1,-1,-1 x y z", "play 3 2 0,0,-1,-1,-1,-1 x y z"} {
			before := script.Run(lines(ahead...))
			with := script.Run(lines(slices.Concat(ahead, []string{line}, later())...))
			without := script.Run(lines(slices.Concat(ahead, []string{"#"}, later())...))
			none, rest, _ := strings.Cut(strings.TrimPrefix(with, before), "\n")
			if !strings.HasPrefix(none, "none ") {
				t.Fatalf("%s: %q tells %q", when, line, none)
			}
			sameText(t, line, rest, strings.TrimPrefix(without, before))
		}
	}
}

// Promise 19.7: of every leaf that is held `fresh` tells what `prove` tells, where that is not refused; where its nodes
// live no more, it is a proof that `check` accepts.
func TestFresh(t *testing.T) {
	alike, alone := 0, 0
	for seed := range 150 {
		d := drawn(t, 700+seed, 80)
		if d.p.shut {
			continue
		}
		d.write("root")
		for _, i := range slices.Sorted(maps.Keys(d.p.held)) {
			d.write(fmt.Sprintf("fresh %d", i))
			d.write(fmt.Sprintf("prove %d", i))
		}
		got := linesOf(script.Run(d.text.String()))
		at := len(got) - 2*len(d.p.held)
		for k := at; k < len(got); k += 2 {
			fresh, prove := got[k], got[k+1]
			if !strings.HasPrefix(fresh, "proof 0x4d") {
				t.Fatalf("a leaf that is held: %q", fresh)
			}
			if strings.HasPrefix(prove, "proof ") {
				sameText(t, "fresh", fresh, prove)
				alike++
				continue
			}
			if !strings.HasSuffix(prove, ": error 50") {
				t.Fatalf("prove tells %q", prove)
			}
			line := wordsOf(linesOf(d.text.String())[d.number-len(got)+k])
			var i uint64
			fmt.Sscan(line[1], &i)
			tells(t, lines(fmt.Sprintf("new %d 3 2", d.p.w), fmt.Sprintf("check %d %d %s 0x%x %s", d.p.size(), i, got[at-1][5:], d.p.leaves[i], fresh[6:])), "ok", "accepted")
			alone++
		}
	}
	if alike < 50 || alone < 50 {
		t.Errorf("%d proofs were told by both, %d by the flock alone", alike, alone)
	}
}

// Promise 19.7: at each size, of each leaf, however the others came.
func TestFreshAtEachSize(t *testing.T) {
	for _, anew := range []string{"new 32 3 2", "new 1 0 1", "load " + greatImage(2, 3, 5), "load " + greatImage(32, 3, 1<<40+7)} {
		all := []string{anew}
		for k := range 40 {
			all = append(all, []string{"hold a", "hold b", "batch -1 c d e", "hold f", "play 1 -1 2,1 g h", "append i"}[k%6])
			held := linesOf(script.Run(lines(append(all, "held")...)))
			asked := slices.Clone(all)
			indices := wordsOf(held[len(held)-1])[1:]
			for _, i := range indices {
				asked = append(asked, "fresh "+i, "prove "+i)
			}
			got := told(t, asked...)[len(all):]
			for j := range indices {
				sameText(t, "fresh", got[2*j], got[2*j+1])
				if !strings.HasPrefix(got[2*j], "proof 0x4d") {
					t.Fatalf("%q tell %q", asked, got)
				}
			}
		}
	}
}
