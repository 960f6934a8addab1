package store

import (
	"cmp"
	"math/bits"
	"slices"

	"massif/api"
)

// rowLog: a row is 1 << rowLog places, as many as a word has bits.
const rowLog = 6

// chunk has the living nodes of its places. It is as great as these are many, not as its places are: rows in which nothing lives are left out.
type chunk struct{ rows []row } // rising

// row has the living nodes of its places. Where chunks are shorter than rows, a row has but those of its chunk.
type row struct {
	number uint64
	live   uint64     // a bit for each place
	hashes []api.Hash // of those that are set, rising
}

// rowOf is the number of the row in which p is.
func rowOf(p uint64) uint64 { return p >> rowLog }

// bitOf is the bit of p in its row.
func bitOf(p uint64) uint64 { return 1 << (p & (1<<rowLog - 1)) }

// below has the bits of the places of a row that are below n.
func below(n, row uint64) uint64 {
	switch cmp.Compare(row, rowOf(n)) {
	case -1:
		return ^uint64(0)
	case 1:
		return 0
	}
	return bitOf(n) - 1
}

// rank is how many of the row's living nodes stand ahead of the place with this bit.
func (r *row) rank(bit uint64) int { return bits.OnesCount64(r.live & (bit - 1)) }

func (c *chunk) empty() bool { return len(c.rows) == 0 }

// find is where the row of p stands, or is to stand.
func (c *chunk) find(p uint64) (int, bool) {
	return slices.BinarySearchFunc(c.rows, rowOf(p), func(r row, number uint64) int {
		return cmp.Compare(r.number, number)
	})
}

// get is the hash of the node at p, if it lives.
func (c *chunk) get(p uint64) (api.Hash, bool) {
	i, ok := c.find(p)
	if !ok || c.rows[i].live&bitOf(p) == 0 {
		return api.Hash{}, false
	}
	r := &c.rows[i]
	return r.hashes[r.rank(bitOf(p))], true
}

// put lets the node at p live, which did not.
func (c *chunk) put(p uint64, h api.Hash) {
	i, ok := c.find(p)
	if !ok {
		c.rows = slices.Insert(c.rows, i, row{number: rowOf(p)})
	}
	r := &c.rows[i]
	r.hashes = slices.Insert(r.hashes, r.rank(bitOf(p)), h)
	r.live |= bitOf(p)
}

// take lets the node at p live no more, which did.
func (c *chunk) take(p uint64) {
	i, _ := c.find(p)
	r := &c.rows[i]
	at := r.rank(bitOf(p))
	r.hashes = slices.Delete(r.hashes, at, at+1)
	r.live &^= bitOf(p)
	if r.live == 0 {
		c.rows = slices.Delete(c.rows, i, i+1)
	}
}

// thin lets live no more what is, by its row, not to stay; the answer is how many those are.
func (c *chunk) thin(stay func(row uint64) uint64) uint64 {
	gone := 0
	for i := range c.rows {
		r := &c.rows[i]
		gone += r.thin(stay(r.number))
	}
	c.rows = slices.DeleteFunc(c.rows, func(r row) bool { return r.live == 0 })
	return uint64(gone)
}

// thin lets live no more those whose bits are not in stay; the answer is how many those are.
func (r *row) thin(stay uint64) int {
	stay &= r.live
	if stay == r.live {
		return 0
	}
	before := len(r.hashes)
	kept := make([]api.Hash, 0, bits.OnesCount64(stay)) // a new one: the room of those that go is given back
	for left := stay; left != 0; left &= left - 1 {
		kept = append(kept, r.hashes[r.rank(left&-left)])
	}
	r.hashes, r.live = kept, stay
	return before - len(kept)
}

// tell tells the nodes that live, rising, as long as it is asked; whether it still is, is the answer.
func (c *chunk) tell(yield func(uint64, api.Hash) bool) bool {
	for _, r := range c.rows {
		at := 0
		for left := r.live; left != 0; left &= left - 1 {
			p := r.number<<rowLog + uint64(bits.TrailingZeros64(left))
			if !yield(p, r.hashes[at]) {
				return false
			}
			at++
		}
	}
	return true
}
