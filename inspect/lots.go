package inspect

import (
	"cmp"
	"iter"
	"maps"
	"slices"

	"cullet/api"
)

// groups is items by their keys.
type groups[K cmp.Ordered, V any] map[K][]V

func (g groups[K, V]) add(key K, item V) { g[key] = append(g[key], item) }

// inOrder tells all keys, in ascending order, with their items.
func (g groups[K, V]) inOrder() iter.Seq2[K, []V] {
	return func(yield func(K, []V) bool) {
		for _, key := range slices.Sorted(maps.Keys(g)) {
			if !yield(key, g[key]) {
				return
			}
		}
	}
}

// Lots returns the lots that are clear, blocked, and open.
func Lots(c api.Checker, l []api.Run) (clear, blocked, open []int, e api.Errno) {
	r, e := recordOf(c, l)
	if e != api.OK {
		return nil, nil, nil, e
	}
	clear, blocked, open = r.lots()
	return clear, blocked, open, api.OK
}

// lots returns the lots that are clear, blocked, and open. One of which all bottles were rejected is none.
func (r record) lots() (clear, blocked, open []int) {
	all := groups[int, api.Verdict]{}
	for entry, v := range r.verdicts() {
		if v != api.VeOut {
			all.add(r.log[entry].Lot, v)
		}
	}
	for lot, known := range all.inOrder() {
		switch {
		case slices.Contains(known, api.VeSuspect):
			blocked = append(blocked, lot)
		case slices.Contains(known, api.VeOpen):
			open = append(open, lot)
		default:
			clear = append(clear, lot)
		}
	}
	return clear, blocked, open
}
