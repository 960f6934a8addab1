package script

import (
	"massif/api"
	"massif/batch"
	"massif/carry"
	"massif/image"
	"massif/keep"
	"massif/pos"
)

// machine is what the lines of one script speak of. A forest that is closed has let go of its keep: what lines need of
// it still stands here.
type machine struct {
	forest  *batch.Forest
	width   int    // of the forest's keep
	workers int    // of the forest
	gone    uint64 // how many nodes live no more: to count those that live anew at each line would take long
	flock   *carry.Flock
}

// begun is what there is ahead of the first line.
func begun() *machine {
	m := &machine{}
	m.begin(32, 3, 2) // these are within their bounds
	return m
}

// begin has everything begin anew, if the counts are within their bounds.
func (m *machine) begin(width, log, workers int) api.Errno {
	k, e := keep.New(width, log)
	if e != api.OK {
		return e
	}
	return m.over(k, workers)
}

// over puts a forest over a keep in the forest's place, and a flock that begins at it.
func (m *machine) over(k *keep.Keep, workers int) api.Errno {
	forest, e := batch.New(k, workers)
	if e != api.OK {
		return e
	}
	flock, _ := carry.NewFlock(k.Width(), k.Size(), k.Peaks()) // a keep has as many peaks as its size asks for
	gone := nodesOf(k) - uint64(len(k.Live()))
	*m = machine{forest: forest, width: k.Width(), workers: workers, gone: gone, flock: flock}
	return api.OK
}

// nodesOf is how many nodes a keep's leaves have made.
func nodesOf(k *keep.Keep) uint64 {
	nodes, _ := pos.Nodes(k.Size()) // no keep has too many leaves
	return nodes
}

// opened is the keep, if the words were right and the forest is not closed.
func (m *machine) opened(w *words) (*keep.Keep, api.Errno) {
	if e := w.end(); e != api.OK {
		return nil, e
	}
	return m.forest.Keep()
}

func (m *machine) anew(w *words) (string, api.Errno) {
	width, log, workers := w.count(), w.count(), w.count()
	if e := w.end(); e != api.OK {
		return "", e
	}
	return "ok", m.begin(width, log, workers)
}

func (m *machine) save(w *words) (string, api.Errno) {
	k, e := m.opened(w)
	if e != api.OK {
		return "", e
	}
	return "image " + hex(image.Save(k)), api.OK
}

func (m *machine) load(w *words) (string, api.Errno) {
	b := w.hex()
	if e := w.end(); e != api.OK {
		return "", e
	}
	k, e, _ := image.Load(b)
	if e != api.OK {
		return "", e
	}
	return "ok", m.over(k, m.workers)
}

func (m *machine) close(w *words) (string, api.Errno) {
	if e := w.end(); e != api.OK {
		return "", e
	}
	return "ok", m.forest.Close()
}
