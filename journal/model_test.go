package journal_test

import (
	"bytes"
	"crypto/sha256"
	"fmt"
	"math/big"
	"slices"
	"testing"

	"massif/api"
	"massif/journal"
	"massif/keep"
)

const (
	least = -1 << 63
	most  = 1<<63 - 1
	far   = ^uint64(0)
)

// leaf is the n-th of hashes that are all unlike one another; it has bytes behind every width but the greatest.
func leaf(n uint64) api.Hash {
	x := api.Hash{29: 1, 30: 9, 31: byte(n * 7)}
	for i := range 8 {
		x[i] = byte(n >> (8 * i))
	}
	return x
}

// leaves are k of them, from leaf(from) on.
func leaves(from uint64, k int) []api.Hash {
	l := make([]api.Hash, k)
	for i := range l {
		l[i] = leaf(from + uint64(i))
	}
	return l
}

// groups is a number in groups of 7 bits, by the words of 1.7.
func groups(x uint64) []byte {
	if x < 128 {
		return []byte{byte(x)}
	}
	return append([]byte{byte(x%128) + 128}, groups(x/128)...)
}

// long reads a number by the words of 1.7.
func long(b []byte) (*big.Int, int, api.Errno) {
	last := slices.IndexFunc(b[:min(len(b), 10)], func(c byte) bool { return c < 128 })
	if last < 0 && len(b) < 10 {
		return nil, 0, api.ErrCut
	}
	if last < 0 {
		return nil, 0, api.ErrRange
	}
	x := new(big.Int)
	for _, c := range slices.Backward(b[:last+1]) {
		x.Lsh(x, 7)
		x.Add(x, big.NewInt(int64(c%128)))
	}
	if !x.IsUint64() {
		return nil, 0, api.ErrRange
	}
	if last > 0 && b[last] == 0 {
		return nil, 0, api.ErrForm
	}
	return x, last + 1, api.OK
}

// head is the head of a journal, and record a record with this text, by the words of 23.3 and 23.4.
func head(w, log uint64) []byte { return slices.Concat([]byte{74}, groups(w), groups(log)) }

func record(text ...byte) []byte { return sealed(groups(uint64(len(text))), text) }

// sealed is a record with these bytes for its number.
func sealed(number, text []byte) []byte {
	sum := sha256.Sum256(text)
	return slices.Concat(number, text, sum[:4])
}

// The texts of records, by the words of 23.4.
func appends(leaf api.Hash) []byte { return append([]byte{65}, leaf[:]...) }

func batches(leaves ...api.Hash) []byte {
	text := []byte{66}
	for _, l := range leaves {
		text = append(text, l[:]...)
	}
	return text
}

func pins(i uint64) []byte { return append([]byte{80}, groups(i)...) }

func unpins(i uint64) []byte { return append([]byte{85}, groups(i)...) }

func prunes() []byte { return []byte{82} }

// records are those with these texts, one behind the other.
func records(texts ...[]byte) []byte {
	var b []byte
	for _, text := range texts {
		b = append(b, record(text...)...)
	}
	return b
}

// pair is a journal, and what it has to answer like: a keep to which the same is done by chapter 11 alone, and the bytes and
// their lengths by the words of 23.3 to 23.5.
type pair struct {
	t    *testing.T
	when string
	j    *journal.Journal
	k    *keep.Keep
	b    []byte
	ends []int
}

func newPair(t *testing.T, w, log int) *pair {
	t.Helper()
	j, e := journal.New(w, log)
	if e != api.OK || j == nil {
		t.Fatalf("New(%d, %d) is %v, %v", w, log, j, e)
	}
	b := head(uint64(min(max(w, 1), 32)), uint64(log))
	p := &pair{t, fmt.Sprintf("width %d, log %d", w, log), j, newKeep(t, w, log), b, []int{len(b)}}
	p.check()
	return p
}

func newKeep(t *testing.T, w, log int) *keep.Keep {
	t.Helper()
	k, e := keep.New(w, log)
	if e != api.OK {
		t.Fatalf("keep.New(%d, %d) is %v", w, log, e)
	}
	return k
}

// put writes out a record.
func (p *pair) put(text []byte) {
	p.b = append(p.b, record(text...)...)
	p.ends = append(p.ends, len(p.b))
}

func (p *pair) append(leaf api.Hash) {
	p.t.Helper()
	same(p.t, p.when, "Append", p.j.Append(leaf), p.k.Append(leaf))
	p.put(appends(leaf))
}

// parts are how many perfect trees the leaves n, .., n + k - 1 are cut into: at each place the greatest that fits.
func parts(n, k uint64) int {
	count := 0
	for end := n + k; n < end; count++ {
		step := uint64(1)
		for n%(2*step) == 0 && n+2*step <= end {
			step *= 2
		}
		n += step
	}
	return count
}

// outcome is what Batch is to answer, by the words of 23.2, 15.3 and 14.1; the keep is far below MaxLeaves.
func (p *pair) outcome(leaves []api.Hash, workers, stop int) (int, api.Errno) {
	switch {
	case workers < 1 || workers > 64:
		return 0, api.ErrArg
	case len(leaves) > 1<<16:
		return 0, api.ErrLong
	case stop >= 0 && stop < parts(p.k.Size(), uint64(len(leaves))):
		return api.None, api.OK
	}
	return api.Whole, api.OK
}

func (p *pair) batch(leaves []api.Hash, workers, stop int) (int, api.Errno) {
	p.t.Helper()
	want, wantE := p.outcome(leaves, workers, stop)
	outcome, e := p.j.Batch(leaves, workers, stop)
	when := fmt.Sprintf("%s: %d leaves, %d workers, stop %d", p.when, len(leaves), workers, stop)
	same(p.t, when, "the outcome of Batch", outcome, want)
	same(p.t, when, "the error of Batch", e, wantE)
	if outcome == api.Whole {
		for _, l := range leaves {
			p.k.Append(l)
		}
		if len(leaves) > 0 {
			p.put(batches(leaves...))
		}
	}
	return outcome, e
}

func (p *pair) pin(i uint64) api.Errno {
	p.t.Helper()
	e := p.j.Pin(i)
	same(p.t, p.when, fmt.Sprintf("Pin(%d)", i), e, p.k.Pin(i))
	if e == api.OK {
		p.put(pins(i))
	}
	return e
}

func (p *pair) unpin(i uint64) api.Errno {
	p.t.Helper()
	e := p.j.Unpin(i)
	same(p.t, p.when, fmt.Sprintf("Unpin(%d)", i), e, p.k.Unpin(i))
	if e == api.OK {
		p.put(unpins(i))
	}
	return e
}

func (p *pair) prune() uint64 {
	p.t.Helper()
	gone := p.j.Prune()
	same(p.t, p.when, "Prune", gone, p.k.Prune())
	if gone > 0 {
		p.put(prunes())
	}
	return gone
}

// move makes a call that is drawn, with no more than 40 leaves at once.
func (p *pair) move(d *dice) {
	p.t.Helper()
	n := p.k.Size()
	switch d.roll(10) {
	case 0, 1:
		p.append(leaf(n))
	case 2, 3:
		p.batch(leaves(n, int(d.roll(d.roll(40)+1))), 1+int(d.roll(5)), int(d.roll(9))-4)
	case 4, 5:
		p.pin(d.roll(n + 1))
	case 6:
		p.pin(n - min(n, d.roll(4)))
	case 7:
		p.unpin(d.roll(n + 1))
	case 8:
		if l := p.k.Pinned(); len(l) > 0 {
			p.unpin(l[d.roll(uint64(len(l)))])
		}
	case 9:
		if d.roll(2) == 0 {
			p.prune()
		}
	}
}

// check holds all that the journal can be asked against the keep and the bytes.
func (p *pair) check() {
	p.t.Helper()
	sameBytes(p.t, p.when, "Bytes", p.j.Bytes(), p.b)
	sameList(p.t, p.when, "Ends", p.j.Ends(), p.ends)
	sameKeep(p.t, p.when, p.j.Keep(), p.k)
}

// pairOf is a pair with all kinds of records, some of them with numbers of more than a byte.
func pairOf(t *testing.T, w, log int) *pair {
	t.Helper()
	p := newPair(t, w, log)
	p.append(leaf(0))
	p.pin(0)
	p.batch(leaves(1, 3), 2, -1)
	p.pin(3)
	p.pin(3)
	p.prune()
	p.batch(leaves(4, 130), 3, -1)
	p.pin(129)
	p.unpin(3)
	p.append(leaf(134))
	p.prune()
	p.unpin(129)
	p.check()
	return p
}

// sameKeep holds what two keeps answer against each other.
func sameKeep(t *testing.T, when string, k, want *keep.Keep) {
	t.Helper()
	same(t, when, "Size", k.Size(), want.Size())
	same(t, when, "Width", k.Width(), want.Width())
	same(t, when, "Log", k.Log(), want.Log())
	same(t, when, "Chunks", k.Chunks(), want.Chunks())
	same(t, when, "Root", k.Root(), want.Root())
	sameList(t, when, "Peaks", k.Peaks(), want.Peaks())
	sameList(t, when, "Pinned", k.Pinned(), want.Pinned())
	live := want.Live()
	sameList(t, when, "Live", k.Live(), live)
	for _, p := range live {
		got, e := k.Node(p)
		if h, wantE := want.Node(p); got != h || e != wantE {
			t.Fatalf("%s: Node(%d) is %x, %v, want %x, %v", when, p, got, e, h, wantE)
		}
	}
	for _, i := range near(want.Size()) {
		same(t, when, "Pins", k.Pins(i), want.Pins(i))
		p, e := k.Prove(i)
		if q, wantE := want.Prove(i); e != wantE || p.Size != q.Size || p.Index != q.Index || !slices.Equal(p.Nodes, q.Nodes) {
			t.Fatalf("%s: Prove(%d) is %v, %v, want %v, %v", when, i, p, e, q, wantE)
		}
	}
}

// near are the numbers up to n and a little beyond: all, where these are few, else those at the ends.
func near(n uint64) []uint64 {
	var l []uint64
	if n <= 40 {
		for i := range n + 2 {
			l = append(l, i)
		}
		return append(l, far)
	}
	for i := range uint64(5) {
		l = append(l, i, n/2+i, n+1-i)
	}
	return append(l, far)
}

// done is what Replay has to answer: the keep to which all whole records were done, how far that is, and at which lengths
// records ended; or, in their place, where and how it is wrong.
type done struct {
	k    *keep.Keep
	ends []int
	at   int
	e    api.Errno
}

// read does what the words of 23.6 say.
func read(t *testing.T, b []byte) done {
	t.Helper()
	w, log, at, e := readHead(b)
	if e != api.OK {
		return done{e: e}
	}
	x := done{k: newKeep(t, w, log), at: at, ends: []int{at}}
	for x.at < len(b) {
		n, torn, e := x.next(b[x.at:])
		if e != api.OK {
			return done{at: x.at, e: e}
		}
		if torn {
			break
		}
		x.at += n
		x.ends = append(x.ends, x.at)
	}
	return x
}

func readHead(b []byte) (w, log, at int, e api.Errno) {
	if len(b) == 0 {
		return 0, 0, 0, api.ErrCut
	}
	if b[0] != 74 {
		return 0, 0, 0, api.ErrKind
	}
	x, n, e := long(b[1:])
	if e != api.OK {
		return 0, 0, 0, e
	}
	if x.Sign() == 0 || x.Cmp(big.NewInt(32)) > 0 {
		return 0, 0, 0, api.ErrArg
	}
	y, m, e := long(b[1+n:])
	if e != api.OK {
		return 0, 0, 0, e
	}
	if y.Cmp(big.NewInt(16)) > 0 {
		return 0, 0, 0, api.ErrArg
	}
	return int(x.Int64()), int(y.Int64()), 1 + n + m, api.OK
}

// next reads the record at the front of b, and does it.
func (x *done) next(b []byte) (n int, torn bool, e api.Errno) {
	number, n, e := long(b)
	if e == api.ErrCut {
		return 0, true, api.OK
	}
	if e != api.OK {
		return 0, false, e
	}
	if number.Sign() == 0 || number.Cmp(big.NewInt(32*65536+1)) > 0 {
		return 0, false, api.ErrArg
	}
	size := int(number.Int64())
	if len(b)-n < size+4 {
		return 0, true, api.OK
	}
	text := b[n : n+size]
	if sum := sha256.Sum256(text); !bytes.Equal(sum[:4], b[n+size:n+size+4]) {
		return 0, false, api.ErrCheck
	}
	return n + size + 4, false, x.do(text)
}

// do does what a text tells to the keep, by chapter 11 alone.
func (x *done) do(text []byte) api.Errno {
	rest := text[1:]
	switch kind := text[0]; {
	case kind == 65 && len(rest) == 32:
		x.k.Append(api.Hash(rest))
		return api.OK
	case kind == 66 && len(rest) > 0 && len(rest)%32 == 0:
		for ; len(rest) > 0; rest = rest[32:] {
			x.k.Append(api.Hash(rest))
		}
		return api.OK
	case kind == 80 || kind == 85:
		i, n, e := long(rest)
		switch {
		case e != api.OK || n != len(rest):
			return api.ErrForm
		case kind == 80:
			return x.k.Pin(i.Uint64())
		}
		return x.k.Unpin(i.Uint64())
	case kind == 82 && len(rest) == 0 && x.k.Prune() > 0:
		return api.OK
	}
	return api.ErrForm
}

// check holds what Replay answers against the words, and the journal against what is to be replayed.
func check(t *testing.T, when string, b []byte) (*journal.Journal, int, api.Errno) {
	t.Helper()
	was := slices.Clone(b)
	want := read(t, b)
	j, at, e := journal.Replay(b)
	if at != want.at || e != want.e || (j == nil) != (e != api.OK) {
		t.Fatalf("%s: Replay(%s) is %v, %d, %v, want %d, %v", when, short(b), j, at, e, want.at, want.e)
	}
	sameBytes(t, when, "what was handed in", b, was)
	if e == api.OK {
		sameBytes(t, when, "Bytes of what was replayed", j.Bytes(), b[:at])
		sameList(t, when, "Ends of what was replayed", j.Ends(), want.ends)
		sameKeep(t, when, j.Keep(), want.k)
	}
	return j, at, e
}

// refused holds what Replay answers against the words, and against an error and a place.
func refused(t *testing.T, when string, b []byte, wantE api.Errno, wantAt int) {
	t.Helper()
	if _, at, e := check(t, when, b); e != wantE || at != wantAt {
		t.Fatalf("%s: Replay(%s) is %v at %d, want %v at %d", when, short(b), e, at, wantE, wantAt)
	}
}

// taken holds what Replay answers against the words, and against how many bytes it is to take.
func taken(t *testing.T, when string, b []byte, wantAt int) *journal.Journal {
	t.Helper()
	j, at, e := check(t, when, b)
	if e != api.OK || at != wantAt {
		t.Fatalf("%s: Replay(%s) is %v at %d, want %d bytes taken", when, short(b), e, at, wantAt)
	}
	return j
}

// behind is b with something behind it, in memory of its own.
func behind(b []byte, more ...byte) []byte { return slices.Concat(b, more) }

// turned is b with one bit turned, in memory of its own.
func turned(b []byte, bit int) []byte {
	b = slices.Clone(b)
	b[bit/8] ^= 1 << (bit % 8)
	return b
}

func times(c byte, n int) []byte { return bytes.Repeat([]byte{c}, n) }

// short are bytes as they are told, not more of them than can be read.
func short(b []byte) string {
	if len(b) > 400 {
		return fmt.Sprintf("%x .., %d bytes", b[:400], len(b))
	}
	return fmt.Sprintf("%x", b)
}

func same[T comparable](t *testing.T, when, what string, got, want T) {
	t.Helper()
	if got != want {
		t.Fatalf("%s: %s is %v, want %v", when, what, got, want)
	}
}

func sameList[T comparable](t *testing.T, when, what string, got, want []T) {
	t.Helper()
	if !slices.Equal(got, want) {
		t.Fatalf("%s: %s is %v, want %v", when, what, got, want)
	}
}

func sameBytes(t *testing.T, when, what string, got, want []byte) {
	t.Helper()
	if !bytes.Equal(got, want) {
		t.Fatalf("%s: %s is %s, want %s", when, what, short(got), short(want))
	}
}

// dice are numbers that are drawn by a rule, the same in every run.
type dice uint64

func (d *dice) roll(n uint64) uint64 {
	*d = *d*6364136223846793005 + 1442695040888963407
	return uint64(*d>>33) % n
}
