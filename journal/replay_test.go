package journal_test

import (
	"fmt"
	"slices"
	"testing"

	"massif/api"
)

// Promise 23.6: no byte, and every first byte, with right bytes behind, with wrong ones, and with none.
func TestHeadKind(t *testing.T) {
	refused(t, "nil", nil, api.ErrCut, 0)
	refused(t, "empty", []byte{}, api.ErrCut, 0)
	refused(t, "a head behind the end", head(32, 3)[:0], api.ErrCut, 0)
	right := pairOf(t, 32, 3).b[1:]
	for c := range 256 {
		for _, rest := range [][]byte{nil, right, {0}, {33}, {1, 17}, {1, 0}, times(255, 10), times(128, 9), {2, 3, 0}} {
			b := append([]byte{byte(c)}, rest...)
			if c != 74 {
				refused(t, "another kind", b, api.ErrKind, 0)
			}
			check(t, "any kind", b)
		}
	}
}

// numbers are some that lie round bounds, or far beyond them.
func numbers() []uint64 {
	return []uint64{0, 1, 2, 15, 16, 17, 18, 31, 32, 33, 34, 64, 127, 128, 129, 255, 256, 257, 272, 288, 1 << 14, 1<<16 + 1, 1<<21 - 1, 1 << 21, 1<<21 + 1, 1<<21 + 2, 1 << 31, 1<<31 + 1, 1<<32 + 1, 1<<32 + 16, 1<<32 + 33, 1 << 62, 1<<63 - 1, 1 << 63, 1<<63 + 1, far - 1, far}
}

// misread are bytes that begin with no number, and what Long says of them.
func misread() map[api.Errno][][]byte {
	m := map[api.Errno][][]byte{
		api.ErrCut:   {nil},
		api.ErrForm:  {{128, 0}, {129, 0}, {255, 0}, {128, 128, 0}, append(times(255, 9), 0), {161, 0}},
		api.ErrRange: {times(255, 10), times(128, 10), times(128, 11), append(times(255, 9), 2), append(times(128, 9), 127), append(times(128, 10), 1)},
	}
	for n := 1; n < 10; n++ {
		m[api.ErrCut] = append(m[api.ErrCut], times(128, n), times(255, n), append(times(131, n-1), 129))
	}
	return m
}

// Promise 23.6: widths and logs that are none, with nothing behind, with right bytes and with others.
func TestHeadNumbers(t *testing.T) {
	right := pairOf(t, 32, 3).b
	for _, x := range numbers() {
		for _, rest := range [][]byte{nil, right[2:], right[3:], {0}, {17}, times(255, 30), times(128, 3)} {
			b := slices.Concat([]byte{74}, groups(x), rest)
			if x < 1 || x > 32 {
				refused(t, "no width", b, api.ErrArg, 0)
			}
			check(t, "any width", b)
			b = slices.Concat([]byte{74, 7}, groups(x), rest)
			if x > 16 {
				refused(t, "no log", b, api.ErrArg, 0)
			}
			check(t, "any log", b)
		}
	}
	for w := uint64(1); w < 33; w++ {
		for log := range uint64(17) {
			k := taken(t, "any width and log", head(w, log), 3).Keep()
			same(t, "replayed", "Width", k.Width(), int(w))
			same(t, "replayed", "Log", k.Log(), int(log))
		}
	}
}

// Promise 23.6: numbers of the head that can't be read; a width that is wrong comes ahead of a log that is.
func TestHeadMisread(t *testing.T) {
	for e, l := range misread() {
		for _, b := range l {
			refused(t, "the width", append([]byte{74}, b...), e, 0)
			refused(t, "the log", append([]byte{74, 32}, b...), e, 0)
			refused(t, "the log, behind a width that is none", append([]byte{74, 33}, b...), api.ErrArg, 0)
			if e != api.ErrCut {
				for _, rest := range [][]byte{{17}, {0}, {3, 0, 0}, times(255, 12), record(82)} {
					refused(t, "the width, with something behind", slices.Concat([]byte{74}, b, rest), e, 0)
					refused(t, "the log, with something behind", slices.Concat([]byte{74, 1}, b, rest), e, 0)
				}
			}
		}
	}
}

// Promise 23.6: a record's number that can't be read, behind the head and behind other records: torn where it is cut, wrong
// where it is anything else.
func TestRecordMisread(t *testing.T) {
	for _, ahead := range [][]byte{head(32, 3), pairOf(t, 2, 1).b} {
		for e, l := range misread() {
			for _, b := range l {
				if e == api.ErrCut {
					taken(t, "a number that is cut", behind(ahead, b...), len(ahead))
					continue
				}
				for _, rest := range [][]byte{nil, {0}, {1, 82}, times(255, 12), record(82), record(appends(leaf(1))...)} {
					refused(t, "a number that is none", slices.Concat(ahead, b, rest), e, len(ahead))
				}
			}
		}
	}
}

// Promise 23.6: each number of bytes of a text, round the bounds and far beyond: with none of them there, with some, and with
// bytes that are wrong in other ways.
func TestRecordNumbers(t *testing.T) {
	for _, ahead := range [][]byte{head(32, 3), pairOf(t, 2, 1).b} {
		for _, x := range numbers() {
			for _, rest := range [][]byte{nil, {65}, {67, 1, 2, 3, 4}, times(0, 4), times(255, 50)} {
				b := slices.Concat(ahead, groups(x), rest)
				switch {
				case x < 1 || x > 32<<16+1:
					refused(t, "a number out of bounds", b, api.ErrArg, len(ahead))
				case uint64(len(rest)) < x+4:
					taken(t, "a text that is cut", b, len(ahead))
				default:
					refused(t, "another check", b, api.ErrCheck, len(ahead))
				}
			}
		}
	}
}

// Promise 23.6: a number that is not in its shortest form is wrong, however right the rest is.
func TestNumberInOtherForms(t *testing.T) {
	ahead := behind(head(32, 3), records(appends(leaf(0)), appends(leaf(1)))...)
	for _, text := range [][]byte{appends(leaf(2)), batches(leaves(3, 5)...), pins(1), prunes()} {
		number := groups(uint64(len(text)))
		taken(t, "the shortest form", behind(ahead, sealed(number, text)...), len(ahead)+len(record(text...)))
		number[len(number)-1] += 128
		for noughts := range 8 {
			b := behind(ahead, sealed(slices.Concat(number, times(128, noughts), []byte{0}), text)...)
			refused(t, "another form", b, api.ErrForm, len(ahead))
		}
	}
}

// Promise 23.6: texts of each length with each first byte that there is a record of, and with others; all of them with the
// right check.
func TestTextLengths(t *testing.T) {
	start := behind(head(32, 3), records(batches(leaves(0, 7)...), pins(0))...)
	for _, kind := range []byte{65, 66, 80, 82, 85, 0, 1, 64, 67, 74, 81, 83, 255} {
		for n := range 140 {
			for _, fill := range []byte{0, 1, 128, 255} {
				text := append([]byte{kind}, times(fill, n)...)
				b := behind(start, record(text...)...)
				right := kind == 65 && n == 32 || kind == 66 && n > 0 && n%32 == 0 || n == 1 && kind == 80 && fill < 2 || n == 1 && kind == 85 && fill == 0 || kind == 82 && n == 0
				switch {
				case right:
					taken(t, "a text", b, len(b))
				case kind == 85 && n == 1 && fill == 1:
					refused(t, "a leaf without a pin", b, api.ErrPin, len(start))
				default:
					refused(t, "a text of none", b, api.ErrForm, len(start))
				}
			}
		}
	}
	for kind := range 256 {
		check(t, "any first byte", behind(start, record(byte(kind))...))
		check(t, "any first byte", behind(start, record(byte(kind), 0)...))
		check(t, "any first byte", behind(start, record(append([]byte{byte(kind)}, times(9, 32)...)...)...))
	}
}

// Promise 23.6: batches of each small number of leaves, and texts that lack or have some bytes of one.
func TestBatchTexts(t *testing.T) {
	for n := range 70 {
		text := batches(leaves(3, n)...)
		b := behind(head(2, 3), record(text...)...)
		if n == 0 {
			refused(t, "no leaf", b, api.ErrForm, 3)
			continue
		}
		same(t, "a batch", "Size", taken(t, "a batch", b, len(b)).Keep().Size(), uint64(n))
		for _, cut := range []int{1, 2, 16, 31} {
			refused(t, "a leaf that is cut", behind(head(2, 3), record(text[:len(text)-cut]...)...), api.ErrForm, 3)
			refused(t, "a leaf that has begun", behind(head(2, 3), record(append(slices.Clone(text), times(66, cut)...)...)...), api.ErrForm, 3)
		}
	}
	text := batches(leaves(0, 1<<16)...)
	taken(t, "the greatest batch", behind(head(1, 9), record(text...)...), 3+4+len(text)+4)
	refused(t, "a batch that is greater", behind(head(1, 9), record(append(text, 1)...)...), api.ErrArg, 3)
	refused(t, "a greatest text of another kind", behind(head(1, 9), record(append([]byte{67}, text[1:]...)...)...), api.ErrForm, 3)
}

// Promise 23.6: of Pin and Unpin all but one number behind the first byte is another form, whatever Long says of it.
func TestPinTexts(t *testing.T) {
	start := behind(head(32, 3), records(batches(leaves(0, 300)...), pins(0), pins(130), pins(299))...)
	for _, kind := range []byte{80, 85} {
		for _, l := range misread() {
			for _, rest := range l {
				refused(t, "no number", behind(start, record(append([]byte{kind}, rest...)...)...), api.ErrForm, len(start))
				refused(t, "no number, and one", behind(start, record(slices.Concat([]byte{kind}, rest, []byte{128, 128, 0, 0})...)...), api.ErrForm, len(start))
			}
		}
		for _, i := range []uint64{0, 130, 299} {
			text := append([]byte{kind}, groups(i)...)
			b := behind(start, record(text...)...)
			taken(t, "a number", b, len(b))
			for _, more := range [][]byte{{0}, {1}, {128}, groups(i), times(0, 31)} {
				refused(t, "a number with something behind", behind(start, record(behind(text, more...)...)...), api.ErrForm, len(start))
			}
		}
		for _, i := range []uint64{300, 301, 1 << 32, 1<<32 + 130, 1 << 62, 1<<63 + 130, far} {
			refused(t, "no leaf", behind(start, record(append([]byte{kind}, groups(i)...)...)...), api.ErrIndex, len(start))
		}
	}
}

// Promise 23.6: what the keep refuses, with its error, and at the record's place.
func TestRefusedByTheKeep(t *testing.T) {
	// Seven leaves, of which 1 can be proved, and 6, the last one.
	start := [][]byte{batches(leaves(0, 7)...), pins(1), prunes()}
	for _, c := range []struct {
		name  string
		texts [][]byte // the last one is wrong, if there is an error
		e     api.Errno
	}{
		{"a leaf that can be proved", [][]byte{pins(6)}, api.OK},
		{"the greatest index", [][]byte{pins(7)}, api.ErrIndex},
		{"the greatest index of one leaf more", [][]byte{appends(leaf(7)), pins(8)}, api.ErrIndex},
		{"an index far away", [][]byte{pins(far)}, api.ErrIndex},
		{"a leaf that lives no more", [][]byte{pins(3)}, api.ErrPruned},
		{"a sibling that lives no more", [][]byte{pins(0)}, api.ErrPruned},
		{"another leaf without a pin", [][]byte{unpins(6)}, api.ErrPin},
		{"a leaf without a pin that lives no more", [][]byte{unpins(2)}, api.ErrPin},
		{"no leaf", [][]byte{unpins(7)}, api.ErrIndex},
		{"no leaf, far away", [][]byte{unpins(far)}, api.ErrIndex},
		{"a pin that was taken away", [][]byte{unpins(1), unpins(1)}, api.ErrPin},
		{"a pin more", [][]byte{pins(1), unpins(1), unpins(1)}, api.OK},
		{"nothing to prune", [][]byte{prunes()}, api.ErrForm},
		{"nothing to prune behind a pin", [][]byte{pins(6), prunes()}, api.ErrForm},
		{"something to prune", [][]byte{unpins(1), prunes()}, api.OK},
		{"something to prune, and nothing", [][]byte{unpins(1), prunes(), prunes()}, api.ErrForm},
		{"no pin behind it all", [][]byte{unpins(1), prunes(), pins(1)}, api.ErrPruned},
		{"leaves to prune", [][]byte{appends(leaf(7)), prunes()}, api.OK},
	} {
		last := len(c.texts) - 1
		ahead := slices.Concat(head(32, 1), records(start...), records(c.texts[:last]...))
		b := behind(ahead, record(c.texts[last]...)...)
		taken(t, c.name+", torn", b[:len(b)-1], len(ahead))
		refused(t, c.name+", with another check", turned(b, 8*len(b)-1), api.ErrCheck, len(ahead))
		if c.e == api.OK {
			taken(t, c.name, b, len(b))
			continue
		}
		refused(t, c.name, b, c.e, len(ahead))
		refused(t, c.name+", with a right record behind", behind(b, record(appends(leaf(9))...)...), c.e, len(ahead))
		refused(t, c.name+", with a torn record behind", behind(b, 33, 65), c.e, len(ahead))
	}
}

// Promise 23.6: at a record of each kind, each one-byte change of its number, its text and its check.
func TestEachByteOfARecord(t *testing.T) {
	p := newPair(t, 32, 2)
	p.append(leaf(0))
	p.batch(leaves(1, 4), 1, -1)
	p.pin(1)
	p.pin(1)
	p.unpin(1)
	p.prune()
	p.append(leaf(5))
	for i, at := range p.ends[:len(p.ends)-1] {
		number := len(groups(uint64(p.ends[i+1] - at - 5)))
		if i == 1 {
			number = 2 // the batch has more than 127 bytes
		}
		for place := at; place < p.ends[i+1]; place++ {
			for c := range 256 {
				b := slices.Clone(p.b)
				b[place] = byte(c)
				when := fmt.Sprintf("the byte %d of record %d is %d", place-at, i, c)
				switch {
				case c == int(p.b[place]):
					taken(t, when, b, len(b))
				case place-at >= number:
					refused(t, when, b, api.ErrCheck, at)
				default:
					check(t, when, b)
				}
			}
		}
	}
}

// Promise 23.6: one bit of each byte turned, of the head, too: what is told is what the words say of it.
func TestEachBit(t *testing.T) {
	p := pairOf(t, 3, 1)
	for bit := range 8 * len(p.b) {
		check(t, fmt.Sprint("bit ", bit), turned(p.b, bit))
	}
}

// Promise 23.6 and rule R2: where several things are wrong with a record, the one that stands first is told.
func TestWhatIsWrongFirst(t *testing.T) {
	start := behind(head(32, 3), records(appends(leaf(0)), appends(leaf(1)))...)
	at := len(start)
	seal := func(text []byte) []byte {
		return turned(behind(start, record(text...)...), 8*(at+len(record(text...)))-1)
	}
	for _, text := range [][]byte{{67}, {65}, {66}, {80}, {82, 0}, pins(9), unpins(0), prunes(), appends(leaf(2))} {
		refused(t, "a wrong check ahead of all that the text tells", seal(text), api.ErrCheck, at)
		b := behind(start, record(text...)...)
		taken(t, "torn ahead of a wrong text", b[:len(b)-1], at)
		b = seal(text)
		taken(t, "torn ahead of a wrong check", b[:len(b)-1], at)
	}
	refused(t, "a number out of bounds ahead of torn", behind(start, groups(32<<16+2)...), api.ErrArg, at)
	refused(t, "the number 0 ahead of torn", behind(start, 0), api.ErrArg, at)
	refused(t, "the number 0 ahead of a wrong check", behind(start, 0, 1, 2, 3, 4), api.ErrArg, at)
	refused(t, "the number 0 with the check of no text", behind(start, record()...), api.ErrArg, at)
	refused(t, "another form ahead of out of bounds", behind(start, append(times(255, 4), 0)...), api.ErrForm, at)
	refused(t, "another form ahead of the number 0", behind(start, 128, 0), api.ErrForm, at)
	refused(t, "too great ahead of another form", behind(start, append(times(255, 9), 64)...), api.ErrRange, at)
	taken(t, "cut ahead of out of bounds", behind(start, times(255, 9)...), at)
	refused(t, "a form ahead of the keep's error", behind(start, record(append(pins(9), 0)...)...), api.ErrForm, at)
}

// Promise 23.6: of two wrong records the first is told; behind a wrong one nothing counts.
func TestTheFirstWrongRecord(t *testing.T) {
	start := behind(head(32, 3), records(appends(leaf(0)), appends(leaf(1)))...)
	wrong := map[api.Errno][]byte{
		api.ErrForm: record(67), api.ErrArg: {0}, api.ErrCheck: {1, 82, 0, 0, 0, 0}, api.ErrIndex: record(pins(9)...), api.ErrPin: record(unpins(0)...), api.ErrRange: times(255, 10),
	}
	for e, b := range wrong {
		refused(t, "a wrong record", behind(start, b...), e, len(start))
		for _, more := range wrong {
			refused(t, "two wrong records", slices.Concat(start, b, more), e, len(start))
		}
		refused(t, "a right one behind", slices.Concat(start, b, record(pins(0)...)), e, len(start))
		one := record(appends(leaf(3))...)
		refused(t, "a right one ahead", slices.Concat(start, one, b), e, len(start)+len(one))
		if e != api.ErrPin { // of no leaf it is ErrIndex
			refused(t, "behind the head", slices.Concat(start[:3], b), e, 3)
		}
	}
}
