package script

import (
	"strconv"

	"massif/api"
)

func (m *machine) pin(w *words) (string, api.Errno) {
	i := w.number()
	k, e := m.opened(w)
	if e != api.OK {
		return "", e
	}
	e = k.Pin(i)
	return "pins " + strconv.Itoa(k.Pins(i)), e
}

func (m *machine) unpin(w *words) (string, api.Errno) {
	i := w.number()
	k, e := m.opened(w)
	if e != api.OK {
		return "", e
	}
	e = k.Unpin(i)
	return "pins " + strconv.Itoa(k.Pins(i)), e
}

func (m *machine) pinned(w *words) (string, api.Errno) {
	k, e := m.opened(w)
	if e != api.OK {
		return "", e
	}
	return row("pinned", k.Pinned(), decimal), api.OK
}

func (m *machine) prune(w *words) (string, api.Errno) {
	k, e := m.opened(w)
	if e != api.OK {
		return "", e
	}
	gone := k.Prune()
	m.gone += gone
	return "pruned " + decimal(gone), api.OK
}
