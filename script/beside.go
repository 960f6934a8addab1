package script

import (
	"massif/api"
	"massif/proof"
	"massif/verify"
)

// What stands here goes on where the forest is closed: it asks the flock, or nobody.

func (m *machine) check(w *words) (string, api.Errno) {
	n, i, root, leaf, b := w.number(), w.number(), w.hash(), w.hash(), w.hex()
	if e := w.end(); e != api.OK {
		return "", e
	}
	return "accepted", verify.Member(m.width, root, n, i, leaf, b)
}

func (m *machine) reach(w *words) (string, api.Errno) {
	from, first, n, second, b := w.number(), w.hash(), w.number(), w.hash(), w.hex()
	if e := w.end(); e != api.OK {
		return "", e
	}
	return "accepted", verify.Prefix(m.width, from, first, n, second, b)
}

func (m *machine) held(w *words) (string, api.Errno) {
	if e := w.end(); e != api.OK {
		return "", e
	}
	return row("held", m.flock.Held(), decimal), api.OK
}

func (m *machine) fresh(w *words) (string, api.Errno) {
	i := w.number()
	if e := w.end(); e != api.OK {
		return "", e
	}
	p, e := m.flock.Proof(i)
	if e != api.OK {
		return "", e
	}
	return proofOf(proof.Encode(p))
}

func (m *machine) leave(w *words) (string, api.Errno) {
	i := w.number()
	if e := w.end(); e != api.OK {
		return "", e
	}
	return "ok", m.flock.Leave(i)
}
