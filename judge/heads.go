package judge

import (
	"bytes"
	"cmp"
	"maps"
	"slices"

	"massif/api"
)

// origins are the heads that were accepted as prefixes of one, each with the bytes that showed it.
type origins map[api.Head][]byte

// rising are the heads that are a map's keys, in their order.
func rising[V any](m map[api.Head]V) []api.Head {
	return slices.SortedFunc(maps.Keys(m), compare)
}

// compare is the order of heads: by their sizes, then by their roots.
func compare(a, b api.Head) int {
	return cmp.Or(cmp.Compare(a.Size, b.Size), bytes.Compare(a.Root[:], b.Root[:]))
}

// alike is how many of some rising heads have the size of the first one.
func alike(heads []api.Head) int {
	k := 0
	for k < len(heads) && heads[k].Size == heads[0].Size {
		k++
	}
	return k
}
