package forming

import (
	"slices"

	"cullet/api"
)

// works is a machine that is safe, with what its guards ask for.
type works struct {
	api.Machine
	rules []rule
}

// worksOf returns the works of a machine, or Check's error, or ErrState if it is not safe.
func worksOf(m api.Machine) (works, api.Errno) {
	if e := Check(m); e != api.OK {
		return works{}, e
	}
	w := works{m, rules(m)}
	if !isSafe(m, w.rules) {
		return works{}, api.ErrState
	}
	return w, api.OK
}

// driven returns the works of a machine, or the first error of it, or of a log.
func driven(m api.Machine, l []api.Switch) (works, api.Errno) {
	w, e := worksOf(m)
	if e != api.OK {
		return works{}, e
	}
	if _, e := w.drive(l); e != api.OK {
		return works{}, e
	}
	return w, api.OK
}

func (w works) isMode(mode int) bool       { return isIndex(mode, len(w.Modes)) }
func (w works) isSection(section int) bool { return isIndex(section, len(w.Offsets)) }

// tick returns which tick of a section's cycle it is at a time.
func (w works) tick(section, t int) int { return modulo(t-w.Offsets[section], w.Cycle) }

// permits tells whether a change is permitted.
func (w works) permits(from, to, tick int) bool {
	now := whole(tick).ratio()
	for mech := range w.Mechs {
		if pathOf(w.Machine, from, mech).at(now) != pathOf(w.Machine, to, mech).at(now) {
			return false
		}
	}
	return !slices.ContainsFunc(w.rules, func(r rule) bool { return !r.keptOver(from, to, tick) })
}

// drive returns the number of the first switch that is not allowed, and its error, or how many there are.
func (w works) drive(l []api.Switch) (at int, e api.Errno) {
	if len(l) > api.MaxSwitches {
		return 0, api.ErrLimit
	}
	for i, s := range l {
		if e := w.allow(l[:i], s); e != api.OK {
			return i, e
		}
	}
	return len(l), api.OK
}

// allow returns the error of a switch behind others that are allowed.
func (w works) allow(before []api.Switch, s api.Switch) api.Errno {
	if !w.isSection(s.Section) || !w.isMode(s.Mode) {
		return api.ErrNone
	}
	if !isClock(s.Time) {
		return api.ErrArg
	}
	if n := len(before); n > 0 && before[n-1].Time > s.Time {
		return api.ErrState
	}
	last, is := lastSwitch(before, s.Section, s.Time)
	if is && s.Time-last.Time < w.Cycle {
		return api.ErrState
	}
	if !w.permits(last.Mode, s.Mode, w.tick(s.Section, s.Time)) {
		return api.ErrClash
	}
	return api.OK
}

// lastSwitch returns the last switch of a section up to a time. If there is none, it returns false, and one to the mode that is run at first.
func lastSwitch(l []api.Switch, section, t int) (last api.Switch, is bool) {
	for _, s := range slices.Backward(l) {
		if s.Section == section && s.Time <= t {
			return s, true
		}
	}
	return api.Switch{}, false
}

// Change tells whether a change is permitted.
func Change(m api.Machine, from, to, tick int) (bool, api.Errno) {
	w, e := worksOf(m)
	if e != api.OK {
		return false, e
	}
	if !w.isMode(from) || !w.isMode(to) {
		return false, api.ErrNone
	}
	if !between(tick, 0, m.Cycle-1) {
		return false, api.ErrArg
	}
	return w.permits(from, to, tick), api.OK
}

// Ticks returns the ticks at which a change is permitted.
func Ticks(m api.Machine, from, to int) ([]int, api.Errno) {
	w, e := worksOf(m)
	if e != api.OK {
		return nil, e
	}
	if !w.isMode(from) || !w.isMode(to) {
		return nil, api.ErrNone
	}
	var ticks []int
	for tick := range m.Cycle {
		if w.permits(from, to, tick) {
			ticks = append(ticks, tick)
		}
	}
	return ticks, api.OK
}

// Drive returns the number of the first switch that is not allowed, and its error, or how many there are.
func Drive(m api.Machine, l []api.Switch) (at int, e api.Errno) {
	w, e := worksOf(m)
	if e != api.OK {
		return 0, e
	}
	return w.drive(l)
}

// Soonest returns the earliest time from t on at which a section may go over to a mode, behind a log; false if there is none.
func Soonest(m api.Machine, l []api.Switch, section, mode, t int) (at int, found bool, e api.Errno) {
	w, e := driven(m, l)
	if e != api.OK {
		return 0, false, e
	}
	if !w.isSection(section) || !w.isMode(mode) {
		return 0, false, api.ErrNone
	}
	if !isClock(t) {
		return 0, false, api.ErrArg
	}
	if len(l) == api.MaxSwitches {
		return 0, false, api.ErrLimit
	}
	first := w.earliest(l, section, t)
	for at := first; at < first+m.Cycle; at++ {
		if w.allow(l, api.Switch{Section: section, Time: at, Mode: mode}) == api.OK {
			return at, true, api.OK
		}
	}
	return 0, false, api.OK
}

// earliest returns the earliest time from t on at which a section may switch again behind a log, whatever its mechanisms do.
func (w works) earliest(l []api.Switch, section, t int) int {
	if n := len(l); n > 0 {
		t = max(t, l[n-1].Time)
	}
	if last, is := lastSwitch(l, section, api.MaxClock); is {
		t = max(t, last.Time+w.Cycle)
	}
	return t
}
