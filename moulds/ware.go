package moulds

import (
	"iter"
	"slices"

	"cullet/api"
	"cullet/forming"
)

// works is a shop with the machine that has its mounts, and with the machine's log.
type works struct {
	api.Shop
	machine api.Machine
	log     []api.Switch
	mounts  placed
}

// worksOf returns the works of a shop, a machine and its log, or their first error.
func worksOf(s api.Shop, m api.Machine, l []api.Switch) (works, api.Errno) {
	if e := Check(s); e != api.OK {
		return works{}, e
	}
	if _, e := forming.Drive(m, l); e != api.OK {
		return works{}, e
	}
	isElsewhere := func(x api.Mount) bool { return !isIndex(x.Section, len(m.Offsets)) }
	if slices.ContainsFunc(s.Mounts, isElsewhere) {
		return works{}, api.ErrNone
	}
	return works{s, m, l, placedOf(s.Mounts)}, api.OK
}

// worksAt returns the works of a shop, a machine and its log, if it may be looked at them at these times.
func worksAt(s api.Shop, m api.Machine, l []api.Switch, from, to int) (works, api.Errno) {
	w, e := worksOf(s, m, l)
	if e != api.OK {
		return works{}, e
	}
	if !isClock(from) || !isClock(to) || !between(to-from, 0, w.look()) {
		return works{}, api.ErrArg
	}
	return w, api.OK
}

// look returns for how many ticks works are looked at together, at most.
func (w works) look() int { return api.MaxLook * w.machine.Cycle }

// gobs returns the gobs that are taken at times that may be looked at together; none if there are no times.
func (w works) gobs(from, to int) []api.Gob {
	if to < from {
		return nil
	}
	all, _ := forming.Gobs(w.machine, w.log, from, to) // of works at such times it has no error
	return all
}

// ware tells the bottles that are made at such times, in the order of their gobs.
func (w works) ware(from, to int) iter.Seq[api.Ware] {
	return func(yield func(api.Ware) bool) {
		for _, g := range w.gobs(from, to) {
			for cavity := range w.Cavities {
				mould, is := w.mounts.held(place{g.Section, cavity}, g.Time)
				if !is {
					continue
				}
				if !yield(api.Ware{Section: g.Section, Cavity: cavity, Mould: mould, Time: g.Time, Kept: g.Kept}) {
					return
				}
			}
		}
	}
}

// filter tells those of all items that are as a function wants them.
func filter[T any](all iter.Seq[T], is func(T) bool) iter.Seq[T] {
	return func(yield func(T) bool) {
		for x := range all {
			if is(x) && !yield(x) {
				return
			}
		}
	}
}

// Made returns the ware whose gobs are taken at some times.
func Made(s api.Shop, m api.Machine, l []api.Switch, from, to int) ([]api.Ware, api.Errno) {
	w, e := worksAt(s, m, l, from, to)
	if e != api.OK {
		return nil, e
	}
	return slices.Collect(w.ware(from, to)), api.OK
}

// wareOf returns the ware that a mould makes at some times, in the order of these.
func wareOf(s api.Shop, m api.Machine, l []api.Switch, mould, from, to int) ([]api.Ware, api.Errno) {
	w, e := worksAt(s, m, l, from, to)
	if e != api.OK {
		return nil, e
	}
	if !isIndex(mould, len(s.Moulds)) {
		return nil, api.ErrNone
	}
	ofMould := func(x api.Ware) bool { return x.Mould == mould }
	return slices.Collect(filter(w.ware(from, to), ofMould)), api.OK
}

// Count returns how many bottles a mould makes at some times.
func Count(s api.Shop, m api.Machine, l []api.Switch, mould, from, to int) (int, api.Errno) {
	all, e := wareOf(s, m, l, mould, from, to)
	return len(all), e
}

// Worn returns the moulds that have made as many bottles as they live, or more, up to a time.
func Worn(s api.Shop, m api.Machine, l []api.Switch, to int) ([]int, api.Errno) {
	w, e := worksAt(s, m, l, 0, to)
	if e != api.OK {
		return nil, e
	}
	made := make([]int, len(s.Moulds))
	for x := range w.ware(0, to) {
		made[x.Mould]++
	}
	var worn []int
	for i, x := range s.Moulds {
		if made[i] >= x.Life {
			worn = append(worn, i)
		}
	}
	return worn, api.OK
}

// Sources returns the ware that a sight may be.
func Sources(s api.Shop, m api.Machine, l []api.Switch, x api.Sight) ([]api.Ware, api.Errno) {
	w, e := worksOf(s, m, l)
	if e != api.OK {
		return nil, e
	}
	sources, e := w.sources(x)
	if e != api.OK {
		return nil, e
	}
	return slices.Collect(sources), api.OK
}

// sources tells the ware that a sight may be, or returns the sight's error.
func (w works) sources(x api.Sight) (iter.Seq[api.Ware], api.Errno) {
	if !isClock(x.Time) || !between(x.Number, 0, api.MaxNumber) {
		return nil, api.ErrArg
	}
	if w.High-w.Low > w.look() {
		return nil, api.ErrScope
	}
	mayBe := func(y api.Ware) bool {
		return y.Kept && (x.Number == 0 || x.Number == w.Moulds[y.Mould].Number)
	}
	return filter(w.ware(max(0, x.Time-w.High), x.Time-w.Low), mayBe), api.OK
}

// Windows returns the times at which kept ware may be inspected that a mould makes at some times.
func Windows(s api.Shop, m api.Machine, l []api.Switch, mould, from, to int) ([]api.Span, api.Errno) {
	all, e := wareOf(s, m, l, mould, from, to)
	if e != api.OK {
		return nil, e
	}
	var windows []api.Span
	for _, x := range all {
		if x.Kept {
			windows = widened(windows, api.Span{Low: x.Time + s.Low, High: x.Time + s.High})
		}
	}
	return windows, api.OK
}

// widened adds a span to spans that begin before it, and end before it does.
func widened(all []api.Span, s api.Span) []api.Span {
	if n := len(all); n > 0 && s.Low <= all[n-1].High+1 {
		all[n-1].High = s.High
		return all
	}
	return append(all, s)
}

// Fits returns the number of the first mount that does not fit, as its section takes a gob about a swap, or how many mounts there are.
func Fits(s api.Shop, m api.Machine, l []api.Switch) (at int, e api.Errno) {
	w, e := worksOf(s, m, l)
	if e != api.OK {
		return 0, e
	}
	for i, x := range s.Mounts {
		if w.takesAbout(x.Section, x.From) || w.takesAbout(x.Section, x.To) {
			return i, api.OK
		}
	}
	return len(s.Mounts), api.OK
}

// takesAbout tells whether a section takes a gob about a swap.
func (w works) takesAbout(section, swap int) bool {
	return w.takes(section, max(0, swap-w.Swap), min(swap+w.Swap-1, api.MaxClock))
}

// takes tells whether a section takes a gob at some of these times, however many they are. As long as it does not switch it takes gobs alike in all cycles, so one cycle from the first time on, and one from each switch on, tell of all.
func (w works) takes(section, from, to int) bool {
	starts := []int{from}
	for _, x := range w.log {
		if x.Section == section && between(x.Time, from, to) {
			starts = append(starts, x.Time)
		}
	}
	isOfSection := func(g api.Gob) bool { return g.Section == section }
	return slices.ContainsFunc(starts, func(start int) bool {
		end := min(to, start+w.machine.Cycle-1)
		return slices.ContainsFunc(w.gobs(start, end), isOfSection)
	})
}
