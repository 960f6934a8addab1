package script

import (
	"strconv"

	"massif/api"
	"massif/many"
	"massif/proof"
)

func (m *machine) size(w *words) (string, api.Errno) {
	k, e := m.opened(w)
	if e != api.OK {
		return "", e
	}
	nodes := nodesOf(k)
	return "size " + decimal(k.Size()) + " nodes " + decimal(nodes) + " live " + decimal(nodes-m.gone) + " chunks " + strconv.Itoa(k.Chunks()), api.OK
}

func (m *machine) root(w *words) (string, api.Errno) {
	k, e := m.opened(w)
	if e != api.OK {
		return "", e
	}
	return "root " + hexOf(k.Root()), api.OK
}

func (m *machine) peaks(w *words) (string, api.Errno) {
	k, e := m.opened(w)
	if e != api.OK {
		return "", e
	}
	return row("peaks", k.Peaks(), hexOf), api.OK
}

func (m *machine) node(w *words) (string, api.Errno) {
	p := w.number()
	k, e := m.opened(w)
	if e != api.OK {
		return "", e
	}
	h, e := k.Node(p)
	return "node " + hexOf(h), e
}

func (m *machine) prove(w *words) (string, api.Errno) {
	i := w.number()
	k, e := m.opened(w)
	if e != api.OK {
		return "", e
	}
	p, e := k.Prove(i)
	if e != api.OK {
		return "", e
	}
	return proofOf(proof.Encode(p))
}

func (m *machine) prefix(w *words) (string, api.Errno) {
	from := w.number()
	k, e := m.opened(w)
	if e != api.OK {
		return "", e
	}
	p, e := k.ProvePrefix(from)
	if e != api.OK {
		return "", e
	}
	return proofOf(proof.EncodePrefix(p))
}

func (m *machine) many(w *words) (string, api.Errno) {
	index := w.numbers()
	k, e := m.opened(w)
	if e != api.OK {
		return "", e
	}
	p, e := k.ProveMany(index)
	if e != api.OK {
		return "", e
	}
	return proofOf(many.Encode(p))
}

func (m *machine) live(w *words) (string, api.Errno) {
	k, e := m.opened(w)
	if e != api.OK {
		return "", e
	}
	return row("live", k.Live(), decimal), api.OK
}
