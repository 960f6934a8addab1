package journal

import (
	"slices"

	"massif/api"
	"massif/num"
)

// torn is told of a record whose end is not there. Of a record that is there nothing else says it.
const torn = api.ErrCut

// alone and unstopped are how a batch is done again.
const (
	alone     = 1
	unstopped = -1
)

// deed is how a record is done again: by what stands in its text behind the first byte.
type deed struct {
	of byte
	do func(j *Journal, rest []byte) api.Errno
}

// deeds are all that a record can tell.
func deeds() [5]deed {
	return [5]deed{
		{ofAppend, (*Journal).doAppend},
		{ofBatch, (*Journal).doBatch},
		{ofPin, (*Journal).doPin},
		{ofUnpin, (*Journal).doUnpin},
		{ofPrune, (*Journal).doPrune},
	}
}

// Replay does again what bytes tell, as far as they tell whole records: a journal that goes on there, how many bytes it
// took, or why not, and where.
func Replay(b []byte) (*Journal, int, api.Errno) {
	j, e := begun(b)
	if e != api.OK {
		return nil, 0, e
	}
	at, e := j.redo(b)
	if e != api.OK {
		return nil, at, e
	}
	j.records = slices.Clone(b[headLen:at]) // each of them has one form: it would be written the same
	return j, at, api.OK
}

// begun is the journal of which the head tells.
func begun(b []byte) (*Journal, api.Errno) {
	if len(b) == 0 {
		return nil, api.ErrCut
	}
	if b[0] != ofJournal {
		return nil, api.ErrKind
	}
	w, n, e := within(b[1:], 1, uint64(hashLen))
	if e != api.OK {
		return nil, e
	}
	log, _, e := within(b[1+n:], 0, api.MaxLog)
	if e != api.OK {
		return nil, e
	}
	return New(w, log)
}

// redo does what the records behind the head tell, up to the end of b, to one that is torn, or to one that is wrong: the
// answer is where that is, and what is wrong.
func (j *Journal) redo(b []byte) (int, api.Errno) {
	at, wrong := headLen, api.OK
reading:
	for at < len(b) {
		text, n, e := record(b[at:])
		if e == api.OK {
			e = j.do(text)
		}
		switch e {
		case api.OK:
			at += n
		case torn:
			break reading
		default:
			wrong = e
			break reading
		}
	}
	return at, wrong
}

// do does what a text tells, which has a byte at least.
func (j *Journal) do(text []byte) api.Errno {
	for _, d := range deeds() {
		if d.of == text[0] {
			return d.do(j, text[1:])
		}
	}
	return api.ErrForm
}

func (j *Journal) doAppend(rest []byte) api.Errno {
	if len(rest) != hashLen {
		return api.ErrForm
	}
	j.keep.Append(api.Hash(rest))
	return api.OK
}

func (j *Journal) doBatch(rest []byte) api.Errno {
	if len(rest) == 0 || len(rest)%hashLen != 0 {
		return api.ErrForm
	}
	_, e := j.appendAll(parted(rest), alone, unstopped)
	return e
}

func (j *Journal) doPin(rest []byte) api.Errno {
	i, e := leafAt(rest)
	if e != api.OK {
		return e
	}
	return j.keep.Pin(i)
}

func (j *Journal) doUnpin(rest []byte) api.Errno {
	i, e := leafAt(rest)
	if e != api.OK {
		return e
	}
	return j.keep.Unpin(i)
}

func (j *Journal) doPrune(rest []byte) api.Errno {
	if len(rest) > 0 || j.keep.Prune() == 0 {
		return api.ErrForm
	}
	return api.OK
}

// leafAt is the index that is all of b. Whatever is wrong with it, the text is none.
func leafAt(b []byte) (uint64, api.Errno) {
	i, n, e := num.Long(b)
	if e != api.OK || n != len(b) {
		return 0, api.ErrForm
	}
	return i, api.OK
}
