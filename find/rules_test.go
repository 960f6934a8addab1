package find_test

import (
	"runtime"
	"slices"
	"testing"

	"massif/api"
	"massif/find"
)

// Rule R4: who asks again is told the same, whatever was asked in between.
func TestAskedAgain(t *testing.T) {
	for seed := range uint64(10) {
		d := dice(seed)
		p := newPair(t)
		s := &spy{refused: map[uint64]api.Errno{20: api.ErrPruned}}
		for range 30 {
			p.add(h(d.next(9)))
		}
		for range 5 {
			p.check()
			for _, x := range p.list.firsts() {
				p.checkProve(s, x)
			}
		}
	}
}

// Rule R2: where an error is answered nothing has changed.
func TestErrorsChangeNothing(t *testing.T) {
	p := pairOf(t, hashes(3, 1, 2, 1, 3, 4)...)
	all := map[uint64]api.Errno{}
	for place := range uint64(20) {
		all[place] = api.ErrPruned
	}
	for range 3 {
		p.Leaf(6)
		p.Leaf(far)
		p.check()
		p.cut(7)
		p.cut(far)
		p.Prove(&spy{refused: all}, h(1))
		p.Prove(nil, h(5))
		p.check(h(5))
		p.add(h(1))
		p.cut(6)
	}
}

// Rules R3, R4: what At and Twice answered may be written over, in its spare room, too: that changes no later answer.
func TestAnswersAreWrittenOver(t *testing.T) {
	p := newPair(t)
	for i := range uint64(40) {
		p.add(h(i % 7))
		for _, x := range p.list.firsts() {
			at := p.At(x)
			at = at[:cap(at)]
			for k := range at {
				at[k] = far
			}
		}
		twice := p.Twice()
		twice = twice[:cap(twice)]
		for k := range twice {
			twice[k] = h(far)
		}
		p.check()
	}
}

// Rules R3, R4: what was answered stays what it was, whatever is done to the find.
func TestAnswersStay(t *testing.T) {
	p := pairOf(t, hashes(1, 2, 1, 2, 1)...)
	at, twice := p.At(h(1)), p.Twice()
	proofs, _ := p.Prove(&spy{}, h(1))
	want, _ := p.Prove(&spy{}, h(1))
	p.cut(1)
	for _, x := range hashes(9, 8, 9, 8, 1) {
		p.add(x)
	}
	p.cut(0)
	for _, x := range hashes(7, 7) {
		p.add(x)
	}
	if !slices.Equal(at, []uint64{0, 2, 4}) || !slices.Equal(twice, hashes(1, 2)) || !slices.EqualFunc(proofs, want, sameProof) {
		t.Errorf("At, Twice, Prove have become %v, %x, %v", at, twice, proofs)
	}
}

// Rule R3: no two proofs of one answer share their nodes, nor does a later one; their spare room neither.
func TestProofsShareNothing(t *testing.T) {
	for n := uint64(1); n < 20; n++ {
		p := newPair(t)
		for i := range n {
			p.add(h(i % 2))
		}
		tree := grown(t, 32, p.list)
		for _, x := range p.list.firsts() {
			l, _ := p.Prove(tree, x)
			again, _ := p.Prove(tree, x)
			for k := range l {
				nodes := l[k].Nodes[:cap(l[k].Nodes)]
				for j := range nodes {
					nodes[j] = h(far)
				}
				if !slices.EqualFunc(l[k+1:], again[k+1:], sameProof) {
					t.Fatalf("the proofs of %d share nodes", n)
				}
			}
			clear(l[:cap(l)])
			if now, e := p.Prove(tree, x); e != api.OK || !slices.EqualFunc(now, again, sameProof) {
				t.Fatalf("Prove of %d is %v, %v, was %v", n, now, e, again)
			}
			p.checkMakes(tree)
		}
	}
}

// Rule R4: two finds in turns know nothing of each other.
func TestTwoInTurns(t *testing.T) {
	d := dice(12)
	p, q := newPair(t), newPair(t)
	for range 300 {
		p, q = q, p
		if d.next(5) == 0 {
			p.cut(d.next(p.Size() + 2))
		} else {
			p.add(h(d.next(6)))
		}
		q.check(h(0), h(1), h(2), h(3), h(4), h(5))
		p.checkProve(&spy{}, h(d.next(6)))
	}
}

// asker is a source that asks a find whenever it is asked.
type asker struct {
	f *find.Find
	x api.Hash
}

func (s asker) Node(p uint64) (api.Hash, api.Errno) {
	s.f.At(s.x)
	s.f.Twice()
	s.f.Prove(&spy{}, s.x)
	return told(p), api.OK
}

// Rules R1, R4: a source may ask the find that asks it.
func TestAskedWithin(t *testing.T) {
	p := newPair(t)
	for i := range uint64(20) {
		p.add(h(i % 3))
		want, _ := p.Prove(&spy{}, h(0))
		if l, e := p.Prove(asker{p.Find, h(1)}, h(0)); e != api.OK || !slices.EqualFunc(l, want, sameProof) {
			t.Fatalf("Prove is %v, %v, want %v", l, e, want)
		}
		p.check()
	}
}

// meddler is a source that changes a find whenever it is asked.
type meddler struct{ change func() }

func (s meddler) Node(p uint64) (api.Hash, api.Errno) {
	s.change()
	return told(p), api.OK
}

// Rule R1: a source that changes the find that asks it: the proofs are those of the leaves that stood there, and what the
// source did is done.
func TestChangedWithin(t *testing.T) {
	p := pairOf(t, hashes(1, 2, 1, 3, 1, 1, 2)...)
	for _, change := range []func(){
		func() { p.Cut(0) },
		func() { p.Cut(3) },
		func() { p.Add(h(1)) },
		func() { p.Cut(2); p.Add(h(2)); p.Add(h(1)) },
	} {
		was := slices.Clone(p.list)
		want := p.checkProve(&spy{}, h(1))
		if l, e := p.Prove(meddler{change}, h(1)); e != api.OK || !slices.EqualFunc(l, want.proofs, sameProof) {
			t.Fatalf("Prove is %v, %v, want %v", l, e, want.proofs)
		}
		p.Cut(0)
		for _, x := range was {
			p.Add(x)
		}
		p.check()
	}
}

// inUse is how much memory is in use that is not given back.
func inUse() uint64 {
	runtime.GC()
	runtime.GC()
	var m runtime.MemStats
	runtime.ReadMemStats(&m)
	return m.HeapAlloc
}

// Promise 22.2: what is forgotten is kept nowhere: a find that was great, and is cut down to some leaves, at once or one by
// one, takes little room.
func TestForgottenTakesNoRoom(t *testing.T) {
	for _, atOnce := range []bool{true, false} {
		before := inUse()
		f := find.New()
		for i := range uint64(100_000) {
			f.Add(h(i))
		}
		if most := inUse(); most < before+100_000*32 {
			t.Errorf("100000 leaves took %d bytes: this test tells nothing", most-before)
		}
		if atOnce {
			f.Cut(10)
		}
		for n := f.Size(); n > 10; n-- {
			f.Cut(n - 1)
		}
		if now := inUse(); now > before+1<<18 {
			t.Errorf("10 leaves of 100000 take %d bytes", now-before)
		}
		if f.Size() != 10 || f.Unlike() != 10 {
			t.Errorf("Size, Unlike are %d, %d", f.Size(), f.Unlike())
		}
	}
}
