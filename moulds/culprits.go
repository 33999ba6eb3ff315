package moulds

import (
	"iter"
	"math/bits"
	"slices"

	"cullet/api"
)

// mostCulprits is how many moulds an explanation has at most.
const mostCulprits = 6

// set is moulds: the bit of each one's number.
type set uint64

func only(mould int) set { return 1 << mould }

// join returns all moulds that items have.
func join[T any](items iter.Seq[T], of func(T) set) set {
	var all set
	for x := range items {
		all |= of(x)
	}
	return all
}

// moulds tells the moulds of a set, in ascending order.
func (s set) moulds() iter.Seq[int] {
	return func(yield func(int) bool) {
		for rest := s; rest != 0; rest &= rest - 1 {
			if !yield(bits.TrailingZeros64(uint64(rest))) {
				return
			}
		}
	}
}

func (s set) count() int { return bits.OnesCount64(uint64(s)) }

// isLess tells whether the list of a set is less than that of another one with as many moulds: it has the first mould that only one of them has.
func (s set) isLess(other set) bool {
	apart := s ^ other
	return s&apart&-apart != 0
}

// Culprits returns how many moulds the smallest explanations of sights have, the first one of these, and the moulds that are in all of these.
func Culprits(s api.Shop, m api.Machine, l []api.Switch, sights []api.Sight) (fewest int, first []int, sure []int, e api.Errno) {
	w, e := worksOf(s, m, l)
	if e != api.OK {
		return 0, nil, nil, e
	}
	causes, e := w.causes(sights)
	if e != api.OK {
		return 0, nil, nil, e
	}
	least, common, found := smallest(causes[:len(sights)])
	if !found {
		return 0, nil, nil, api.ErrScope
	}
	return least.count(), slices.Collect(least.moulds()), slices.Collect(common.moulds()), api.OK
}

// causes returns the moulds from which each sight may come, or the first error of the sights.
func (w works) causes(sights []api.Sight) (causes [api.MaxSights]set, e api.Errno) {
	if len(sights) > len(causes) {
		return causes, api.ErrLimit
	}
	for i, x := range sights {
		sources, e := w.sources(x)
		if e != api.OK {
			return causes, e
		}
		causes[i] = join(sources, func(y api.Ware) set { return only(y.Mould) })
	}
	if slices.Contains(causes[:len(sights)], 0) {
		return causes, api.ErrNone
	}
	return causes, api.OK
}

// smallest returns the first one of the smallest explanations, and what they all have in common; false if none has so few moulds as it must.
func smallest(causes []set) (first, common set, found bool) {
	for count := range mostCulprits + 1 {
		for x := range explanations(causes, count) {
			if !found {
				first, common, found = x, x, true
			}
			common &= x
			if x.isLess(first) {
				first = x
			}
		}
		if found {
			break
		}
	}
	return first, common, found
}

// explanations tells the sets of so many moulds that have one of the causes of each sight, if no set of fewer moulds has.
func explanations(causes []set, count int) iter.Seq[set] {
	return func(yield func(set) bool) {
		// deeper tells those that have the chosen moulds, and as many as are left beside them, but none that was tried before. It returns false if no more are wanted.
		var deeper func(chosen, tried set, left int) bool
		deeper = func(chosen, tried set, left int) bool {
			var next set // the causes of the first sight that is open
		look:
			for _, x := range causes {
				switch {
				case x&chosen != 0:
				case left == 0:
					return true
				default:
					next = x
					break look
				}
			}
			if next == 0 {
				return yield(chosen)
			}
			for mould := range (next &^ tried).moulds() {
				if !deeper(chosen|only(mould), tried, left-1) {
					return false
				}
				tried |= only(mould)
			}
			return true
		}
		deeper(0, 0, count)
	}
}
