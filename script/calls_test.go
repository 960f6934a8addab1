package script_test

import (
	"fmt"
	"testing"

	"massif/api"
	"massif/batch"
	"massif/carry"
	"massif/hash"
	"massif/image"
	"massif/keep"
	"massif/many"
	"massif/pos"
	"massif/proof"
	"massif/verify"
)

// calls is a model that makes the calls of the packages below.
type calls struct {
	t       *testing.T
	keep    *keep.Keep
	forest  *batch.Forest
	flock   *carry.Flock
	workers int
}

// newCalls is what there is at first, by 19.3.
func newCalls(t *testing.T) *calls {
	t.Helper()
	c := &calls{t: t}
	if e := c.anew(32, 3, 2); e != api.OK {
		t.Fatalf("the first forest: %v", e)
	}
	return c
}

func (c *calls) closed() bool {
	_, e := c.forest.Keep()
	return e == api.ErrClosed
}

func (c *calls) anew(w, log, workers int) api.Errno {
	k, e := keep.New(w, log)
	if e != api.OK {
		return e
	}
	return c.over(k, workers)
}

func (c *calls) over(k *keep.Keep, workers int) api.Errno {
	f, e := batch.New(k, workers)
	if e != api.OK {
		return e
	}
	flock, e := carry.NewFlock(k.Width(), k.Size(), k.Peaks())
	if e != api.OK {
		c.t.Fatalf("NewFlock of %d leaves is %v", k.Size(), e)
	}
	c.keep, c.forest, c.flock, c.workers = k, f, flock, workers
	return api.OK
}

func (c *calls) answer(name string, v values) (string, api.Errno) {
	switch name {
	case "new":
		return "ok", c.anew(v.counts[0], v.counts[1], v.counts[2])
	case "append":
		return c.one(v.texts, false)
	case "hold":
		return c.one(v.texts, true)
	case "batch":
		outcome, events, e := c.forest.Append(c.leaves(v.texts), v.counts[0])
		return c.went(outcome, events, e)
	case "play":
		outcome, events, e := c.forest.Play(c.leaves(v.texts), v.counts[0], v.picks, v.counts[1])
		return c.went(outcome, events, e)
	case "check":
		return "accepted", verify.Member(c.keep.Width(), v.hashes[0], v.numbers[0], v.numbers[1], v.hashes[1], v.bytes)
	case "reach":
		return "accepted", verify.Prefix(c.keep.Width(), v.numbers[0], v.hashes[0], v.numbers[1], v.hashes[1], v.bytes)
	case "load":
		k, e, _ := image.Load(v.bytes)
		if e != api.OK {
			return "", e
		}
		return "ok", c.over(k, c.workers)
	case "close":
		return "ok", c.forest.Close()
	case "held":
		return list("held", c.flock.Held(), "%d"), api.OK
	case "fresh":
		p, e := c.flock.Proof(v.numbers[0])
		return c.written(e, func() ([]byte, api.Errno) { return proof.Encode(p) })
	case "leave":
		return "ok", c.flock.Leave(v.numbers[0])
	}
	return c.ask(name, v)
}

// ask answers the lines that are the keep's alone.
func (c *calls) ask(name string, v values) (string, api.Errno) {
	k := c.keep
	switch name {
	case "size":
		nodes, _ := pos.Nodes(k.Size())
		return fmt.Sprintf("size %d nodes %d live %d chunks %d", k.Size(), nodes, len(k.Live()), k.Chunks()), api.OK
	case "root":
		return fmt.Sprintf("root 0x%x", k.Root()), api.OK
	case "peaks":
		return list("peaks", k.Peaks(), "0x%x"), api.OK
	case "node":
		h, e := k.Node(v.numbers[0])
		return fmt.Sprintf("node 0x%x", h), e
	case "prove":
		p, e := k.Prove(v.numbers[0])
		return c.written(e, func() ([]byte, api.Errno) { return proof.Encode(p) })
	case "prefix":
		p, e := k.ProvePrefix(v.numbers[0])
		return c.written(e, func() ([]byte, api.Errno) { return proof.EncodePrefix(p) })
	case "many":
		p, e := k.ProveMany(v.numbers)
		return c.written(e, func() ([]byte, api.Errno) { return many.Encode(p) })
	case "pin":
		e := k.Pin(v.numbers[0])
		return fmt.Sprintf("pins %d", k.Pins(v.numbers[0])), e
	case "unpin":
		e := k.Unpin(v.numbers[0])
		return fmt.Sprintf("pins %d", k.Pins(v.numbers[0])), e
	case "pinned":
		return list("pinned", k.Pinned(), "%d"), api.OK
	case "prune":
		return fmt.Sprintf("pruned %d", k.Prune()), api.OK
	case "live":
		return list("live", k.Live(), "%d"), api.OK
	case "save":
		return fmt.Sprintf("image 0x%x", image.Save(k)), api.OK
	}
	c.t.Fatalf("no such command: %q", name)
	return "", 0
}

// written is what is told of a proof that was made with this error.
func (c *calls) written(e api.Errno, encode func() ([]byte, api.Errno)) (string, api.Errno) {
	c.t.Helper()
	if e != api.OK {
		return "", e
	}
	b, e := encode()
	if e != api.OK {
		c.t.Fatalf("Encode of a proof that was made is %v", e)
	}
	return fmt.Sprintf("proof 0x%x", b), api.OK
}

func (c *calls) leaves(texts []string) []api.Hash {
	var l []api.Hash
	for _, s := range texts {
		l = append(l, hash.Leaf(c.keep.Width(), []byte(s)))
	}
	return l
}

// one appends a leaf as a batch of its own.
func (c *calls) one(texts []string, hold bool) (string, api.Errno) {
	c.t.Helper()
	n := c.keep.Size()
	if n == most {
		return "", api.ErrSize
	}
	if hold && len(c.flock.Held()) == crowd {
		return "", api.ErrLong
	}
	outcome, events, e := c.forest.Append(c.leaves(texts), -1)
	if outcome != api.Whole || e != api.OK {
		c.t.Fatalf("Append of one leaf is %d, %v", outcome, e)
	}
	c.hear(events, hold)
	return fmt.Sprintf("leaf %d", n), api.OK
}

func (c *calls) hear(events []api.Event, hold bool) {
	c.t.Helper()
	for _, ev := range events {
		if e := c.flock.On(ev, hold); e != api.OK {
			c.t.Fatalf("On at %d is %v", ev.Size, e)
		}
	}
}

func (c *calls) went(outcome int, events []api.Event, e api.Errno) (string, api.Errno) {
	c.t.Helper()
	if e != api.OK {
		return "", e
	}
	c.hear(events, false)
	how := map[int]string{api.Whole: "whole", api.None: "none"}[outcome]
	return fmt.Sprintf("%s %d", how, c.keep.Size()), api.OK
}
