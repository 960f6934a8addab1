package store_test

import (
	"slices"
	"testing"

	"massif/api"
	"massif/store"
)

const far = ^uint64(0)

// h is a hash that is told by a number.
func h(n int) api.Hash { return api.Hash{0: byte(n), 1: byte(n >> 8), 2: byte(n >> 16), 31: 1} }

// node is one of a plain list.
type node struct {
	hash api.Hash
	live bool
	pins int
}

// plain is a store as a list of nodes, of which all is worked out anew whenever it is asked.
type plain struct {
	log   int
	nodes []node
}

func (m *plain) has(p uint64) bool { return p < uint64(len(m.nodes)) }

func (m *plain) push(h api.Hash) uint64 {
	m.nodes = append(m.nodes, node{hash: h, live: true})
	return uint64(len(m.nodes) - 1)
}

func (m *plain) get(p uint64) (api.Hash, api.Errno) {
	switch {
	case !m.has(p):
		return api.Hash{}, api.ErrPlace
	case !m.nodes[p].live:
		return api.Hash{}, api.ErrPruned
	}
	return m.nodes[p].hash, api.OK
}

func (m *plain) pin(p uint64) api.Errno {
	_, e := m.get(p)
	if e == api.OK {
		m.nodes[p].pins++
	}
	return e
}

func (m *plain) unpin(p uint64) api.Errno {
	switch {
	case !m.has(p):
		return api.ErrPlace
	case m.nodes[p].pins == 0:
		return api.ErrPin
	}
	m.nodes[p].pins--
	return api.OK
}

func (m *plain) drop(p uint64) api.Errno {
	switch {
	case !m.has(p):
		return api.ErrPlace
	case m.nodes[p].pins > 0:
		return api.ErrPinned
	}
	m.nodes[p].live = false
	return api.OK
}

func (m *plain) sweep(keep []uint64) uint64 {
	gone := uint64(0)
	for i := range m.nodes {
		n := &m.nodes[i]
		if n.live && n.pins == 0 && !slices.Contains(keep, uint64(i)) {
			n.live = false
			gone++
		}
	}
	return gone
}

func (m *plain) back(p uint64, h api.Hash) api.Errno {
	switch {
	case !m.has(p):
		return api.ErrPlace
	case m.nodes[p].live:
		return api.ErrLive
	}
	m.nodes[p] = node{hash: h, live: true}
	return api.OK
}

func (m *plain) cut(n uint64) api.Errno {
	if n > uint64(len(m.nodes)) {
		return api.ErrPlace
	}
	for _, x := range m.nodes[n:] {
		if x.pins > 0 {
			return api.ErrPinned
		}
	}
	m.nodes = m.nodes[:n]
	return api.OK
}

// pair is what All tells at once.
type pair struct {
	place uint64
	hash  api.Hash
}

func (m *plain) all() []pair {
	var l []pair
	for i, n := range m.nodes {
		if n.live {
			l = append(l, pair{uint64(i), n.hash})
		}
	}
	return l
}

func told(s *store.Store) []pair {
	var l []pair
	for p, x := range s.All() {
		l = append(l, pair{p, x})
	}
	return l
}

// chunks is how many unlike quotients the places have.
func chunks(l []pair, log int) int {
	met := map[uint64]int{}
	for _, x := range l {
		q := x.place
		for range log {
			q /= 2
		}
		met[q]++
	}
	return len(met)
}

// fresh is a store of a log, with n nodes h(0), h(1), .., and the plain list that is like it.
func fresh(t *testing.T, log, n int) (*store.Store, *plain) {
	t.Helper()
	s, e := store.New(log)
	if e != api.OK || s == nil {
		t.Fatalf("New(%d) is %v, %v", log, s, e)
	}
	m := &plain{log: log}
	for i := range n {
		if got, want := s.Push(h(i)), m.push(h(i)); got != want {
			t.Fatalf("log %d: Push is %d, want %d", log, got, want)
		}
	}
	return s, m
}

// hold holds all that can be asked of a store, changing nothing, against the plain list.
func hold(t *testing.T, s *store.Store, m *plain, when string) {
	t.Helper()
	all, n := m.all(), uint64(len(m.nodes))
	if s.Len() != n || s.Alive() != uint64(len(all)) || s.Chunks() != chunks(all, m.log) {
		t.Fatalf("log %d, %s: Len, Alive, Chunks are %d, %d, %d, want %d, %d, %d",
			m.log, when, s.Len(), s.Alive(), s.Chunks(), n, len(all), chunks(all, m.log))
	}
	if got := told(s); !slices.Equal(got, all) {
		t.Fatalf("log %d, %s: All tells %v, want %v", m.log, when, got, all)
	}
	for p := range n + 2 {
		holdAt(t, s, m, p, when)
	}
	for _, p := range []uint64{n + 64, n + 1<<16, 1<<63 - 1, 1 << 63, 1<<63 + n, far - 1, far} {
		holdAt(t, s, m, p, when)
	}
}

func holdAt(t *testing.T, s *store.Store, m *plain, p uint64, when string) {
	t.Helper()
	want, wantE := m.get(p)
	if got, e := s.Get(p); got != want || e != wantE {
		t.Fatalf("log %d, %s: Get(%d) is %v, %v, want %v, %v", m.log, when, p, got, e, want, wantE)
	}
	if got := s.Live(p); got != (wantE == api.OK) {
		t.Fatalf("log %d, %s: Live(%d) is %v", m.log, when, p, got)
	}
	pins := 0
	if m.has(p) {
		pins = m.nodes[p].pins
	}
	if got := s.Pins(p); got != pins {
		t.Fatalf("log %d, %s: Pins(%d) is %d, want %d", m.log, when, p, got, pins)
	}
}

// same holds the answers of one act against each other.
func same[A comparable](t *testing.T, m *plain, what string, got, want A) {
	t.Helper()
	if got != want {
		t.Fatalf("log %d: %s is %v, want %v", m.log, what, got, want)
	}
}

// dice are numbers that are drawn by a rule, the same in every run.
type dice uint64

func (d *dice) next(n uint64) uint64 {
	*d = *d*6364136223846793005 + 1442695040888963407
	return uint64(*d>>33) % n
}
