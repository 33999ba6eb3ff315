package forming

import (
	"slices"

	"cullet/api"
)

// Check returns the first error of a machine, or OK.
func Check(m api.Machine) api.Errno {
	if e := checkSections(m); e != api.OK {
		return e
	}
	if e := checkMechs(m); e != api.OK {
		return e
	}
	if e := checkModes(m); e != api.OK {
		return e
	}
	return checkGuards(m)
}

func checkSections(m api.Machine) api.Errno {
	if !isCycle(m.Cycle) {
		return api.ErrArg
	}
	if len(m.Offsets) > api.MaxSections {
		return api.ErrLimit
	}
	isWrong := func(offset int) bool { return !between(offset, 0, m.Cycle-1) }
	if slices.ContainsFunc(m.Offsets, isWrong) || !between(m.Spread, 0, m.Cycle) {
		return api.ErrArg
	}
	return api.OK
}

func checkMechs(m api.Machine) api.Errno {
	if len(m.Mechs) > api.MaxMechs {
		return api.ErrLimit
	}
	for i, x := range m.Mechs {
		if !isName(x.Name) {
			return api.ErrName
		}
		if findMech(m.Mechs[:i], x.Name) >= 0 {
			return api.ErrTwice
		}
		if !isPlace(x.Home) || !between(x.Slack, 0, m.Cycle/4) || !between(x.Most, 0, api.MaxPlace) {
			return api.ErrArg
		}
	}
	return api.OK
}

func checkModes(m api.Machine) api.Errno {
	if len(m.Modes) > api.MaxModes {
		return api.ErrLimit
	}
	byName := map[string]api.Mode{}
	for _, mode := range m.Modes {
		if !isName(mode.Name) {
			return api.ErrName
		}
		if _, twice := byName[mode.Name]; twice {
			return api.ErrTwice
		}
		byName[mode.Name] = mode
		if e := checkMotions(m, mode); e != api.OK {
			return e
		}
		if !between(mode.Gob, noGob, m.Cycle-1) || !between(mode.Reject, 0, api.MaxCycle) {
			return api.ErrArg
		}
	}
	return api.OK
}

// noGob is the Gob of a mode that takes none.
const noGob = -1

func checkMotions(m api.Machine, mode api.Mode) api.Errno {
	if len(mode.Motions) != len(m.Mechs) {
		return api.ErrArg
	}
	for i, x := range m.Mechs {
		p := path{m.Cycle, x.Home, mode.Motions[i]}
		if e := p.check(); e != api.OK {
			return e
		}
		if p.isFaster(x.Most) {
			return api.ErrScope
		}
	}
	return api.OK
}

// check returns the error of a motion.
func (p path) check() api.Errno {
	if !isCycle(p.cycle) || !isPlace(p.home) {
		return api.ErrArg
	}
	if len(p.motion) > api.MaxKnots {
		return api.ErrLimit
	}
	least := 0
	for i, k := range p.motion {
		if !isPlace(k.Place) || !between(k.At, least, p.cycle-1) || i == 0 && k.At != 0 {
			return api.ErrArg
		}
		least = k.At + 1
	}
	return api.OK
}

// isFaster tells whether a path that may be moves by more than this in a tick.
func (p path) isFaster(most int) bool {
	for l := range p.legs() {
		way := l.to.Place - l.from.Place
		if max(way, -way) > most*(l.to.At-l.from.At) {
			return true
		}
	}
	return false
}

func checkGuards(m api.Machine) api.Errno {
	if len(m.Guards) > api.MaxGuards {
		return api.ErrLimit
	}
	for _, g := range m.Guards {
		if g.Kind != api.GuSame && g.Kind != api.GuNext {
			return api.ErrArg
		}
		if !isIndex(g.A, len(m.Mechs)) || !isIndex(g.B, len(m.Mechs)) {
			return api.ErrNone
		}
		if !isPlace(g.PA.Low) || !isPlace(g.PA.High) || !isPlace(g.PB.Low) || !isPlace(g.PB.High) {
			return api.ErrArg
		}
	}
	return api.OK
}

// areStretches tells whether all stretches may be those of a cycle.
func areStretches(cycle int, all []api.Stretch) bool {
	isTime := func(t api.Ratio) bool { return isLowest(t) && between(t.Num, 0, cycle*t.Den) }
	for _, s := range all {
		if !isTime(s.From) || !isTime(s.To) || !quotient(s.To).covers(quotient(s.From)) {
			return false
		}
	}
	return true
}

// isLowest tells whether a quotient is in lowest terms, and its Den may be that of a time.
func isLowest(t api.Ratio) bool {
	return between(t.Den, 1, api.MaxPlace) && divisor(t.Num, t.Den) == 1
}

func isCycle(n int) bool { return between(n, 1, api.MaxCycle) }
func isPlace(n int) bool { return between(n, 0, api.MaxPlace) }
func isClock(n int) bool { return between(n, 0, api.MaxClock) }

func isIndex(n, count int) bool { return between(n, 0, count-1) }

func between(n, least, most int) bool { return least <= n && n <= most }

// findMech returns the number of the first mechanism with this name, or -1.
func findMech(mechs []api.Mech, name string) int {
	return slices.IndexFunc(mechs, func(x api.Mech) bool { return x.Name == name })
}

func isName(s string) bool {
	if len(s) == 0 || len(s) > api.MaxName || !isLetter(s[0]) {
		return false
	}
	for i := range len(s) {
		if c := s[i]; !isLetter(c) && c != '-' && (c < '0' || c > '9') {
			return false
		}
	}
	return true
}

func isLetter(c byte) bool { return 'a' <= c && c <= 'z' }
