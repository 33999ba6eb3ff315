package forming

import (
	"cmp"
	"iter"
	"slices"

	"cullet/api"
)

// Place returns where a mechanism of a section is at a time.
func Place(m api.Machine, l []api.Switch, section, mech int, t api.Ratio) (api.Ratio, api.Errno) {
	w, e := driven(m, l)
	if e != api.OK {
		return api.Ratio{}, e
	}
	if !w.isSection(section) || !isIndex(mech, len(m.Mechs)) {
		return api.Ratio{}, api.ErrNone
	}
	if !isLowest(t) || !isClock(t.Num) {
		return api.Ratio{}, api.ErrArg
	}
	if len(m.Modes) == 0 {
		return api.Ratio{}, api.ErrNone
	}
	last, _ := lastSwitch(l, section, t.Num/t.Den)
	return pathOf(m, last.Mode, mech).at(api.Ratio{Num: t.Num - m.Offsets[section]*t.Den, Den: t.Den}), api.OK
}

// Gobs returns the gobs that sections take at some times.
func Gobs(m api.Machine, l []api.Switch, from, to int) ([]api.Gob, api.Errno) {
	w, e := driven(m, l)
	if e != api.OK {
		return nil, e
	}
	if !isClock(from) || !between(to, from, min(from+100*m.Cycle, api.MaxClock)) {
		return nil, api.ErrArg
	}
	var all []api.Gob
	for section := range m.Offsets {
		for s := range w.spells(l, section) {
			all = append(all, w.gobs(section, s, from, to)...)
		}
	}
	slices.SortFunc(all, byTime)
	return all, api.OK
}

func byTime(a, b api.Gob) int {
	return cmp.Or(cmp.Compare(a.Time, b.Time), cmp.Compare(a.Section, b.Section))
}

// spell is the times at which a section runs a mode, and the first one of them at which its ware is kept.
type spell struct {
	mode  api.Mode
	times api.Span
	keeps int
}

// spells tells what a section runs by a log that is allowed, one mode behind the other.
func (w works) spells(l []api.Switch, section int) iter.Seq[spell] {
	return func(yield func(spell) bool) {
		if len(w.Modes) == 0 {
			return
		}
		now := spell{mode: w.Modes[0], times: api.Span{High: api.MaxClock}}
		for _, s := range l {
			if s.Section != section {
				continue
			}
			now.times.High = s.Time - 1
			if !yield(now) {
				return
			}
			mode := w.Modes[s.Mode]
			now = spell{mode, api.Span{Low: s.Time, High: api.MaxClock}, s.Time + mode.Reject*w.Cycle}
		}
		yield(now)
	}
}

// gobs returns the gobs that a section takes from a time to another one, as long as a spell lasts.
func (w works) gobs(section int, s spell, from, to int) []api.Gob {
	if s.mode.Gob == noGob {
		return nil
	}
	var all []api.Gob
	first := max(from, s.times.Low)
	first += modulo(s.mode.Gob-w.tick(section, first), w.Cycle)
	for t := first; t <= min(to, s.times.High); t += w.Cycle {
		all = append(all, api.Gob{Section: section, Time: t, Kept: t >= s.keeps})
	}
	return all
}
