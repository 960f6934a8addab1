package script

import (
	"massif/api"
	"massif/hash"
	"massif/keep"
)

func (m *machine) append(w *words) (string, api.Errno) { return m.one(w, false) }

func (m *machine) hold(w *words) (string, api.Errno) { return m.one(w, true) }

// one appends one leaf. The flock hears of it ahead of the keep: if it has no room to hold the leaf, nothing is appended.
func (m *machine) one(w *words, hold bool) (string, api.Errno) {
	text := w.text()
	k, e := m.opened(w)
	if e != api.OK {
		return "", e
	}
	if k.Size() == api.MaxLeaves {
		return "", api.ErrSize
	}
	leaf := hash.Leaf(m.width, []byte(text))
	if e := m.flock.On(api.Event{Size: k.Size(), Leaf: leaf, Peaks: k.Peaks()}, hold); e != api.OK {
		return "", e
	}
	return "leaf " + decimal(k.Append(leaf)), api.OK
}

func (m *machine) batch(w *words) (string, api.Errno) {
	stop, texts := w.count(), w.texts()
	k, e := m.opened(w)
	if e != api.OK {
		return "", e
	}
	outcome, events, e := m.forest.Append(m.leaves(texts), stop)
	return m.heard(k, outcome, events, e)
}

func (m *machine) play(w *words) (string, api.Errno) {
	room, cancel, picks, texts := w.count(), w.count(), w.picks(), w.texts()
	k, e := m.opened(w)
	if e != api.OK {
		return "", e
	}
	outcome, events, e := m.forest.Play(m.leaves(texts), room, picks, cancel)
	return m.heard(k, outcome, events, e)
}

func (m *machine) leaves(texts []string) []api.Hash {
	leaves := make([]api.Hash, len(texts))
	for i, text := range texts {
		leaves[i] = hash.Leaf(m.width, []byte(text))
	}
	return leaves
}

// heard has the flock hear of what a batch has appended, and tells how that went.
func (m *machine) heard(k *keep.Keep, outcome int, events []api.Event, e api.Errno) (string, api.Errno) {
	if e != api.OK {
		return "", e
	}
	for _, ev := range events {
		m.flock.On(ev, false) // it has heard of all leaves so far: nothing is refused
	}
	if outcome == api.Whole {
		return "whole " + decimal(k.Size()), api.OK
	}
	return "none " + decimal(k.Size()), api.OK
}
