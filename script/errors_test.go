package script_test

import (
	"fmt"
	"slices"
	"strings"
	"testing"

	"massif/api"
	"massif/hash"
	"massif/script"
)

// later are lines that tell apart whatever a line ahead of them could have changed: the leaves, what lives, pins, the
// flock, the width, the log and the workers, whether it is closed.
func later() []string {
	widths := []string{}
	for _, w := range []int{1, 2, 3, 32} {
		leaf := hash.Leaf(w, []byte("a"))
		widths = append(widths, fmt.Sprintf("check 1 0 0x%x 0x%x 0x4d0100", hash.Root(w, 1, leaf), leaf))
	}
	return slices.Concat(everything(11), widths, crew()[:6], []string{"hold y", "append z", "batch -1 p q r", "size", "root", "held", "fresh 0", "fresh 9", "prove 9", "pin 3", "unpin 8", "prune", "live", "pinned", "save", "leave 0", "held"},
		[]string{"close", "size", "held", "fresh 0", "fresh 9"}, widths, []string{"load 0x490200010100" + zeros + "010007", "held", "fresh 0", "pinned", "save"}, crew()[:6], []string{"new 2 1 3", "append a", "save"}, widths)
}

// refused holds that a line behind others is refused with this error, and that nothing which a later line could tell has
// changed: all else is told as where a remark stands in its place.
func refused(t *testing.T, ahead []string, line string, e api.Errno) {
	t.Helper()
	behind := later()
	got := script.Run(lines(slices.Concat(ahead, []string{line}, behind)...))
	without := script.Run(lines(slices.Concat(ahead, []string{"#"}, behind)...))
	first := script.Run(lines(ahead...))
	if !strings.HasPrefix(without, first) {
		t.Fatalf("%q: the first lines tell something else with others behind them", ahead)
	}
	sameText(t, lines(slices.Concat(ahead, []string{line}, behind)...), got, first+refusal(len(ahead)+1, e)+"\n"+without[len(first):])
}

// Promise 19.4: each error of each line, by the number of the chapter that refuses it; nothing has changed.
func TestErrors(t *testing.T) {
	some := states()["some"] // 11 leaves: the leaves 0, 7, 8, 10 are held, 1 and 8 have pins, and not all nodes live
	h0 := "0x" + zeros
	of1 := " 1 0 " + h0 + " " + h0 + " "
	of12 := " 1 " + h0 + " 2 " + h0 + " "
	for _, x := range []struct {
		e     api.Errno
		lines []string
	}{
		{api.ErrArg, []string{"new 32 17 1", "new 32 -1 1", "new 32 3 0", "new 32 3 65", "new 32 3 -1", "new 1 17 65", "new 1 9223372036854775807 1", "new 1 -9223372036854775808 1", "new 1 1 9223372036854775807", "new 1 1 -9223372036854775808", "new 1 4294967296 1", "new 1 1 4294967297",
			"play -1 -1 -", "play -1 -1 - a", "play 65537 -1 - a", "play 9223372036854775807 0 1 a b", "play -9223372036854775808 0 1 a b", "play 4294967296 -1 - a"}},
		{api.ErrPlace, []string{"node 19", "node 20", "node 4611686018427387904", "node 18446744073709551615"}},
		{api.ErrPruned, []string{"node 1", "node 2", "node 3", "node 4", "prove 0", "prove 2", "prove 4", "prefix 1", "prefix 3", "prefix 5", "many 0", "many 2 8", "many 0 2 3", "pin 0", "pin 2", "pin 7"}},
		{api.ErrIndex, []string{"prove 11", "prove 12", "prove 18446744073709551615", "many 11", "many 8 11", "many 0 1 12", "many 8 18446744073709551615", "pin 11", "pin 18446744073709551615", "unpin 11", "unpin 18446744073709551615", "fresh 1", "fresh 11", "fresh 18446744073709551615", "leave 1", "leave 6", "leave 11", "leave 18446744073709551615"}},
		{api.ErrSize, []string{"prefix 12", "prefix 18446744073709551615"}},
		{api.ErrOrder, []string{"many 1 1", "many 8 7", "many 0 5 5 11", "many 8 8 99", "many 1 0", "many 3 2 99"}},
		{api.ErrPin, []string{"unpin 0", "unpin 2", "unpin 10"}},
		{api.ErrCut, []string{"check" + of1 + "0x", "check" + of1 + "0x4d", "check" + of1 + "0x4d01", "check" + of1 + "0x4d0200", "check" + of1 + "0x4d81", "reach" + of12 + "0x", "reach" + of12 + "0x50", "reach" + of12 + "0x5001", "reach" + of12 + "0x500102", "load 0x", "load 0x49", "load 0x4920", "load 0x492003", "load 0x49200300", "load 0x4920030000", "load 0x4902030101" + "00" + zeros[2:], "load 0x49020301010000"}},
		{api.ErrKind, []string{"check" + of1 + "0x50", "check" + of1 + "0x00", "reach" + of12 + "0x4d0100", "reach" + of12 + "0xff", "load 0x00", "load 0x4d0100", "load 0x48", "load 0x4a0203000000"}},
		{api.ErrRange, []string{"check" + of1 + "0x4dffffffffffffffffff02", "reach" + of12 + "0x50ffffffffffffffffffff", "load 0x49ffffffffffffffffff02", "load 0x4902ffffffffffffffffffff", "load 0x49020380808080808080808080"}},
		{api.ErrForm, []string{"check" + of1 + "0x4d8100", "check" + of1 + "0x4d018000", "reach" + of12 + "0x508000", "reach" + of12 + "0x50018200", "load 0x498200", "load 0x49028300", "load 0x4902038000"}},
		{api.ErrTail, []string{"check" + of1 + "0x4d010000", "reach" + of12 + "0x500102" + zeros + zeros + "00", "reach" + of12 + "0x50000000", "load 0x49020300000000", "load 0x490203000000ff"}},
		{api.ErrArg, []string{"load 0x4900", "load 0x4921", "load 0x49000000000000", "load 0x490211", "load 0x49027f", "load 0x490203010100" + zeros + "010000"}},
		{api.ErrSize, []string{"load 0x490203818080808080808040", "check" + of1 + "0x4d818080808080808040", "reach" + of12 + "0x500001" + zeros, "reach" + of12 + "0x500201", "reach 2 " + h0 + " 2 " + h0 + " 0x500102" + zeros + zeros, "reach 1 " + h0 + " 3 " + h0 + " 0x500102" + zeros + zeros, "check 2 0 " + h0 + " " + h0 + " 0x4d0100", "check 0 0 " + h0 + " " + h0 + " 0x4d0100", "check 18446744073709551615 9 " + h0 + " " + h0 + " 0x4d0100"}},
		{api.ErrIndex, []string{"check" + of1 + "0x4d0101", "check" + of1 + "0x4d0000", "check 1 1 " + h0 + " " + h0 + " 0x4d0100", "check 1 18446744073709551615 " + h0 + " " + h0 + " 0x4d0100", "load 0x490203010100" + zeros + "010101"}},
		{api.ErrRoot, []string{"check" + of1 + "0x4d0100", "reach" + of12 + "0x500102" + zeros + zeros, "reach 0 " + h0 + " 0 " + h0 + " 0x500000"}},
		{api.ErrPlace, []string{"load 0x49020301" + "0101" + zeros + "00", "load 0x49020302" + "0104" + zeros + "00"}},
		{api.ErrPruned, []string{"load 0x490203010000", "load 0x49020302" + "0100" + zeros + "00"}},
		{api.ErrNode, []string{"load 0x49020302" + "0300" + zeros + "00" + zeros + "00" + zeros + "00"}},
		{api.ErrPin, []string{"load 0x49020302" + "0102" + zeros + "010001"}},
		{api.ErrLine, []string{"frob", "append", "append a b", "hold", "size 1", "node", "node x", "many x", "many 0 -1", "new 1 1", "batch", "batch a", "play 0 0", "play 0 0 1,", "load", "load 0x4", "load 0X", "check 1 0", "close now", "held 1", "prune 1", "Size"}},
	} {
		for _, line := range x.lines {
			refused(t, some, line, x.e)
			check(t, lines(slices.Concat(some, []string{line})...))
		}
	}
}

// suspects are lines that are refused in one state or another.
func suspects() []string {
	l := []string{"frob", "new 1 2", "new 1 17 1", "new 9 0 65", "new 9 -1 0", "append", "append a b", "hold", "batch", "batch x a b", "batch -0 a", "play 0 0", "play 0 0 1, a", "play -1 -1 - a", "play 65537 0 0 a b c",
		"root 0", "peaks 0", "save 0x", "close x", "load", "load 0x", "load 0x4a", "load 0x49020300000000", "load 0x490203010000", "load zz", "many 2 1", "many 0 99", "many x", "node 999", "prefix 999", "close", "save", "size", "root", "peaks", "pinned", "prune", "live", "hold b", "append c", "batch -1 a", "batch 0 a", "play 0 0 - a", "many", "held", "check 1 0 0x 0x 0x", "reach 0 0x" + zeros + " 0 0x" + zeros + " 0x500000"}
	for i := range 22 {
		for _, name := range []string{"node", "prove", "prefix", "pin", "unpin", "fresh", "leave", "many"} {
			l = append(l, fmt.Sprintf("%s %d", name, i))
		}
	}
	return l
}

// Rule R2: in forests of all kinds, whatever line is refused has changed nothing that a later line could tell.
func TestRefusedChangesNothing(t *testing.T) {
	met := map[api.Errno]int{}
	for _, ahead := range states() {
		for _, line := range suspects() {
			m := newCalls(t)
			run(m, lines(ahead...))
			s, _ := tell(m, line, 1)
			var e api.Errno
			if _, err := fmt.Sscanf(s, "line 1: error %d", &e); err != nil {
				continue
			}
			met[e]++
			refused(t, ahead, line, e)
		}
	}
	for _, e := range []api.Errno{api.ErrArg, api.ErrCut, api.ErrKind, api.ErrTail, api.ErrSize, api.ErrPlace, api.ErrIndex, api.ErrPruned, api.ErrPin, api.ErrOrder, api.ErrRoot, api.ErrClosed, api.ErrLine} {
		if met[e] == 0 {
			t.Errorf("%v was never met", e)
		}
	}
}

// Promise 19.4: each line on a closed forest: with right words it goes on, if it is one of those that do, and is ErrClosed
// otherwise, whatever else would be refused; with wrong words it is ErrLine.
func TestClosed(t *testing.T) {
	ahead := states()["closed"]
	for _, f := range forms() {
		right := strings.Join(f.samples(), " ")
		number := len(ahead) + 1
		got := told(t, append(slices.Clone(ahead), right)...)[len(ahead)]
		if (got == refusal(number, api.ErrClosed)) == f.goesOn {
			t.Errorf("closed: %q tells %q", right, got)
		}
		if !f.goesOn {
			refused(t, ahead, right, api.ErrClosed)
		}
		refused(t, ahead, right+" \xff", map[bool]api.Errno{true: api.ErrClosed, false: api.ErrLine}[f.more == aText])
		refused(t, ahead, f.name+"! "+right, api.ErrLine)
	}
	for _, line := range []string{"node 999", "prove 999", "prefix 999", "many 2 1", "many 999", "pin 999", "unpin 999", "play -1 0 -", "play 65537 -1 - a", "batch -1 a", "batch 0", "prune", "save", "size", "close"} {
		refused(t, ahead, line, api.ErrClosed)
	}
	for _, line := range []string{"node x", "prove -1", "prefix", "many 2 x", "pin", "unpin 00", "play -1 0 1,", "play x 0 -", "batch a", "prune 0", "save 0", "size 1", "close 1", "hold", "append a b", "frob", "new 1", "load", "held x", "fresh x", "leave", "check", "reach 1"} {
		refused(t, ahead, line, api.ErrLine)
	}
}

// Promise 19.4: on a closed forest the lines that go on answer as they did, and are refused as they were.
func TestClosedGoesOn(t *testing.T) {
	open := states()["some"]
	asked := slices.Concat([]string{"held", "fresh 0", "fresh 10", "fresh 1", "leave 1", "leave 99"}, claims(t, []string{"new 32 0 1", "append a", "append b", "append c"}, 3), []string{"leave 10", "held", "fresh 10", "new 1 17 1", "new 1 1 0", "load 0x", "load 0x490203010000", "held", "fresh 0"})
	got := told(t, slices.Concat(open, []string{"size"}, asked)...)
	want := told(t, slices.Concat(open, []string{"close"}, asked)...)
	if !slices.Equal(got[len(open)+1:], want[len(open)+1:]) {
		t.Fatalf("closed they tell %q, open %q", want, got)
	}
	check(t, lines(slices.Concat(open, []string{"close"}, asked)...))
}

// Promise 19.4: `new` and `load` open a forest; refused ones do not.
func TestOpenAgain(t *testing.T) {
	ahead := states()["closed"]
	hex := saved(t, grown(5)...)
	for _, line := range []string{"new 1 17 1", "new 1 1 65", "new 1 1", "load 0x", "load 0x4", "load 0x490203010000", "load " + hex + "00"} {
		all := append(slices.Clone(ahead), line, "size", "append a", "close", "root", "save")
		for i, s := range told(t, all...)[len(ahead)+1:] {
			sameText(t, line, s, refusal(len(ahead)+2+i, api.ErrClosed))
		}
	}
	for _, line := range []string{"new 1 1 1", "new 32 3 2", "load 0x490203000000", "load " + hex} {
		all := append(slices.Clone(ahead), line, "size", "held", "append a", "hold b", "held", "root", "save", "close", "size", "close", "held", line, "size")
		check(t, lines(all...))
		got := told(t, all...)[len(ahead):]
		for i, want := range map[int]string{0: "ok", 2: "held", 8: "ok", 9: refusal(len(ahead)+10, api.ErrClosed), 10: refusal(len(ahead)+11, api.ErrClosed), 12: "ok", 13: got[1]} {
			sameText(t, line, got[i], want)
		}
	}
	tells(t, lines("hold a", "close", "held", "load 0x490203000000", "held", "size", "close", "new 32 3 2", "held", "append a"), "leaf 0", "ok", "held 0", "ok", "held", "size 0 nodes 0 live 0 chunks 0", "ok", "ok", "held", "leaf 0")
}
