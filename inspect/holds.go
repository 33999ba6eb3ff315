package inspect

import (
	"slices"

	"cullet/api"
	"cullet/moulds"
)

// stop is a hold as inspection sees it: which number its ware shows, and at which times it may come.
type stop struct {
	number  int
	windows []api.Span
}

// stops tells whether it holds a bottle. One whose number could not be read may be of any mould.
func (s stop) stops(x api.Run) bool {
	isNow := func(w api.Span) bool { return between(x.Time, w.Low, w.High) }
	return (x.Number == 0 || x.Number == s.number) && slices.ContainsFunc(s.windows, isNow)
}

// stopsOf returns the stops of holds, or their first error.
func stopsOf(s api.Shop, m api.Machine, w []api.Switch, holds []api.Hold) ([]stop, api.Errno) {
	if len(holds) > api.MaxHolds {
		return nil, api.ErrLimit
	}
	if e := moulds.Check(s); e != api.OK {
		return nil, e
	}
	var all []stop
	for _, h := range holds {
		windows, e := moulds.Windows(s, m, w, h.Mould, h.From, h.To)
		if e != api.OK {
			return nil, e
		}
		all = append(all, stop{s.Moulds[h.Mould].Number, windows})
	}
	return all, api.OK
}

// held returns the bottles that some stop holds.
func (r record) held(all []stop) []int {
	var held []int
	for entry, x := range r.log {
		holds := func(s stop) bool { return s.stops(x) }
		if x.Kind == api.RuBottle && !x.Out && slices.ContainsFunc(all, holds) {
			held = append(held, entry)
		}
	}
	return held
}

// heldOf returns the record of a log, and its bottles that are held; or the first error.
func heldOf(c api.Checker, l []api.Run, s api.Shop, m api.Machine, w []api.Switch, holds []api.Hold) (record, []int, api.Errno) {
	r, e := recordOf(c, l)
	if e != api.OK {
		return record{}, nil, e
	}
	all, e := stopsOf(s, m, w, holds)
	if e != api.OK {
		return record{}, nil, e
	}
	return r, r.held(all), api.OK
}

// Held returns the bottles that are held.
func Held(c api.Checker, l []api.Run, s api.Shop, m api.Machine, w []api.Switch, holds []api.Hold) ([]int, api.Errno) {
	_, held, e := heldOf(c, l, s, m, w, holds)
	return held, e
}

// Release returns the lots that may leave: they are clear, and none of their bottles is held.
func Release(c api.Checker, l []api.Run, s api.Shop, m api.Machine, w []api.Switch, holds []api.Hold) ([]int, api.Errno) {
	r, held, e := heldOf(c, l, s, m, w, holds)
	if e != api.OK {
		return nil, e
	}
	free, _, _ := r.lots()
	isKept := func(lot int) bool {
		return slices.ContainsFunc(held, func(entry int) bool { return l[entry].Lot == lot })
	}
	return slices.DeleteFunc(free, isKept), api.OK
}
