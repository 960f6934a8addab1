package script_test

import (
	"fmt"
	"slices"
	"strings"
	"testing"

	"massif/api"
	"massif/pos"
)

// greatImage is the Hex of an image of n leaves of which just the peaks live.
func greatImage(w, log int, n uint64) string {
	places := pos.Peaks(n)
	b := slices.Concat([]byte{73, byte(w), byte(log)}, short(n), short(uint64(len(places))))
	least := uint64(0)
	for i, p := range places {
		h := api.Hash{0: byte(i + 1), 31: byte(7 * i)}
		b = slices.Concat(b, short(p-least), h[:])
		least = p + 1
	}
	return fmt.Sprintf("0x%x", append(b, 0))
}

// texts are so many, each behind a blank.
func texts(n int) string { return strings.Repeat(" a", n) }

// Promise 19.4: with MaxLeaves leaves nothing is appended; a batch of no text is whole all the same.
func TestMostLeaves(t *testing.T) {
	for _, w := range []int{1, 32} {
		ahead := []string{"new 32 3 3", "load " + greatImage(w, 5, most)}
		for _, line := range []string{"append a", "hold a", "batch -1 a", "batch 0 a", "batch -1 a b c", "play 0 -1 - a", "play 0 0 2,2 a", "play -1 -1 - a", "play 65537 0 - a b"} {
			refused(t, ahead, line, api.ErrSize)
		}
		refused(t, ahead, "play -1 -1 -", api.ErrArg)
		refused(t, ahead, fmt.Sprintf("prefix %d", most+1), api.ErrSize)
		refused(t, ahead, fmt.Sprintf("prove %d", most), api.ErrIndex)
		refused(t, ahead, fmt.Sprintf("prove %d", most-1), api.ErrPruned)
		refused(t, ahead, fmt.Sprintf("pin %d", most-1), api.ErrPruned)
		refused(t, ahead, "node 9223372036854775807", api.ErrPlace)
		refused(t, ahead, "node 9223372036854775805", api.ErrPruned)
		all := slices.Concat(ahead, []string{"size", "batch -1", "batch 0", "play 0 0 2,2", "root", "peaks", "live", "node 9223372036854775806", "prefix 4611686018427387904", "many", "prune", "save"})
		check(t, lines(all...))
		got := told(t, all...)[len(ahead):]
		for i, want := range []string{"size 4611686018427387904 nodes 9223372036854775807 live 1 chunks 1", "whole 4611686018427387904", "whole 4611686018427387904", "whole 4611686018427387904"} {
			sameText(t, "most leaves", got[i], want)
		}
	}
}

// Promises 19.3 and 19.4: near MaxLeaves leaves are appended as far as there is room, by each of the lines; what is held
// there is fresh.
func TestNearMostLeaves(t *testing.T) {
	for left := uint64(1); left < 6; left++ {
		n := most - left
		ahead := []string{"load " + greatImage(32, 0, n)}
		for _, line := range []string{"append a", "hold a", "batch -1 a", "play 0 -1 - a", "play 2 -1 3,1 a"} {
			all := append(slices.Clone(ahead), "size")
			all = append(all, repeated(line, int(left)+2)...)
			all = append(all, "size", "root", "peaks", "live", "held", fmt.Sprintf("fresh %d", n), fmt.Sprintf("prove %d", n), fmt.Sprintf("fresh %d", most-1), fmt.Sprintf("prove %d", most-1), fmt.Sprintf("prefix %d", n), "save")
			check(t, lines(all...))
			got := told(t, all...)
			for k := range left + 2 {
				want := fmt.Sprintf("leaf %d", n+k)
				if line[0] == 'b' || line[0] == 'p' {
					want = fmt.Sprintf("whole %d", n+k+1)
				}
				if k >= left {
					want = refusal(int(k)+3, api.ErrSize)
				}
				sameText(t, line, got[k+2], want)
			}
		}
		for k := 1; k < 8; k++ {
			for _, name := range []string{"batch -1", "batch 0", "play 0 -1 -", "play 65537 -1 -"} {
				line := name + texts(k)
				if uint64(k) > left {
					refused(t, ahead, line, api.ErrSize)
				} else {
					check(t, lines(append(slices.Clone(ahead), line, "save")...))
				}
			}
		}
	}
}

// full are lines behind which the flock holds as many leaves as it may.
func full(ahead ...string) []string { return append(slices.Clone(ahead), repeated("hold a", crowd)...) }

// Promise 19.4: with a full flock `hold` is error 2, and nothing is appended; all else goes on, and `hold` too, when a leaf
// has left.
func TestFullFlock(t *testing.T) {
	ahead := full("new 32 3 2", "append x")
	refused(t, ahead, "hold b", api.ErrLong)
	refused(t, ahead[:len(ahead)-1], "hold", api.ErrLine)
	all := append(slices.Clone(ahead), "hold b", "size", "hold b", "append c", "batch -1 d e", "play 0 -1 - f", "hold g", "size", "fresh 1", "prove 1", "fresh 4096", "prove 4096", "fresh 0", "leave 4000", "hold h", "hold i", "fresh 4101", "prove 4101", "leave 1", "leave 2", "hold j", "hold k", "hold l", "root", "held")
	check(t, lines(all...))
	got := told(t, all...)[len(ahead):]
	number := len(ahead) + 1
	for i, want := range map[int]string{0: refusal(number, api.ErrLong), 1: "size 4097 nodes 8192 live 8192 chunks 1024", 2: refusal(number+2, api.ErrLong), 3: "leaf 4097", 4: "whole 4100", 5: "whole 4101", 6: refusal(number+6, api.ErrLong), 8: got[9], 10: got[11], 12: refusal(number+12, api.ErrIndex), 13: "ok", 14: "leaf 4101", 15: refusal(number+15, api.ErrLong), 16: got[17], 20: "leaf 4102", 21: "leaf 4103", 22: refusal(number+22, api.ErrLong)} {
		sameText(t, "a full flock", got[i], want)
	}
}

// Promise 19.4: of `hold` the forest's errors come ahead of the flock's.
func TestFullFlockOrder(t *testing.T) {
	refused(t, full("load "+greatImage(1, 3, most-crowd)), "hold b", api.ErrSize)
	refused(t, full("load "+greatImage(1, 3, most-crowd-1)), "hold b", api.ErrLong)
	refused(t, append(full(), "close"), "hold b", api.ErrClosed)
	refused(t, append(full(), "close"), "hold b c", api.ErrLine)
	refused(t, append(full(), "load 0x490203010000"), "hold b", api.ErrLong)
	for _, line := range []string{"new 32 3 2", "load 0x490203000000"} {
		all := append(full(), line, "held", "hold a", "held")
		got := told(t, all...)
		for i, want := range []string{"ok", "held", "leaf 0", "held 0"} {
			sameText(t, line, got[crowd+i], want)
		}
	}
}

// Promise 19.4: batches of as many leaves as may be, and of one more: ErrLong, ahead of ErrSize and ErrArg, behind
// ErrClosed and ErrLine.
func TestLongBatches(t *testing.T) {
	just, over := texts(api.MaxBatch), texts(api.MaxBatch+1)
	for _, name := range []string{"batch -1", "play 0 -1 -", "play 65536 -1 5,4,3", "batch 5"} {
		check(t, lines("new 3 3 2", "hold b", name+just, "root", "size", "peaks", "fresh 0", "prove 0", "prove 65536"))
		refused(t, []string{"hold b"}, name+over, api.ErrLong)
		refused(t, []string{"hold b", "close"}, name+over, api.ErrClosed)
		refused(t, []string{"load " + greatImage(2, 3, most)}, name+over, api.ErrLong)
		refused(t, []string{"load " + greatImage(2, 3, most)}, name+just, api.ErrSize)
		refused(t, []string{"load " + greatImage(2, 3, most-api.MaxBatch+1)}, name+just, api.ErrSize)
	}
	tells(t, lines("batch 0"+just, "batch 1"+just, "batch 1"+just), "none 0", "whole 65536", "whole 131072")
	refused(t, []string{"load " + greatImage(2, 3, most)}, "play -1 -1 -"+over, api.ErrLong)
	refused(t, nil, "play -1 -1 -"+over, api.ErrLong)
	refused(t, nil, "play -1 -1 -"+just, api.ErrArg)
	refused(t, nil, "batch x"+over, api.ErrLine)
	tells(t, lines("load "+greatImage(2, 3, most-api.MaxBatch), "batch -1"+just, "append a"), "ok", "whole 4611686018427387904", "line 3: error 30")
}

// Promise 19.4: a leaf that has as many pins as it may: ErrFull.
func TestFullPins(t *testing.T) {
	ahead := []string{"load 0x490203010100" + zeros + "01008080808004"}
	refused(t, ahead, "pin 0", api.ErrFull)
	tells(t, lines(append(ahead, "pinned", "pin 0", "unpin 0", "pin 0", "pin 0", "unpin 0", "unpin 0")...), "ok", "pinned 0", "line 3: error 54", "pins 1073741823", "pins 1073741824", "line 6: error 54", "pins 1073741823", "pins 1073741822")
}

// Promises 19.3 and 19.4: great images, with pins or none, are loaded and gone on with as the packages below do.
func TestGreatImages(t *testing.T) {
	for _, n := range []uint64{1 << 20, 1<<20 - 1, 1<<40 + 5, 1<<61 - 1, 1<<61 + 1, most - 2} {
		for _, w := range []int{1, 7, 32} {
			i := func(k uint64) string { return fmt.Sprint(n + k) }
			check(t, lines("hold x", "load "+greatImage(w, 16, n), "held", "size", "root", "peaks", "live", "hold a", "hold b", "held", "fresh "+i(0), "prove "+i(0), "pin "+i(1), "prune", "size", "pinned", "prove "+i(1), "prefix "+i(0), "prefix "+i(2), "many "+i(0)+" "+i(1), "many "+i(1)+" "+i(0), "prove 0", "save", "batch -1 c d e f", "play 1 -1 3 g", "fresh "+i(0), "leave "+i(0), "fresh "+i(0), "save"))
		}
	}
}

// Promise 19.3: an image as long as a script may be.
func TestLongImage(t *testing.T) {
	hex := saved(t, "batch -1"+texts(7000))
	if len(hex) < api.MaxText*8/10 {
		t.Fatalf("an image of %d digits", len(hex))
	}
	got := check(t, lines("load "+hex, "size", "root", "prove 6999", "pin 3", "prune", "append b", "size"))
	if !strings.HasPrefix(got, "ok\nsize 7000 nodes 13993 live 13993 chunks 1750\n") {
		t.Errorf("it tells %.100q", got)
	}
	refused(t, []string{"hold a"}, "load "+hex[:len(hex)-2], api.ErrCut)
	refused(t, []string{"hold a"}, "load "+hex+"00", api.ErrTail)
}
