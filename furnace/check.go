package furnace

import (
	"slices"

	"cullet/api"
)

// Check returns the first error of a furnace, or OK.
func Check(f api.Furnace) api.Errno {
	if e := checkZones(f.Zones); e != api.OK {
		return e
	}
	if e := checkModes(f.Modes); e != api.OK {
		return e
	}
	if e := checkStreams(f); e != api.OK {
		return e
	}
	return checkFlows(f)
}

func checkZones(zones []api.Zone) api.Errno {
	if len(zones) > api.MaxZones {
		return api.ErrLimit
	}
	if len(zones) == 0 {
		return api.ErrArg
	}
	for i, z := range zones {
		if !isName(z.Name) {
			return api.ErrName
		}
		if findZone(zones[:i], z.Name) >= 0 {
			return api.ErrTwice
		}
		if !between(z.Hold, 1, api.MaxHold) {
			return api.ErrArg
		}
	}
	return api.OK
}

func checkModes(modes []string) api.Errno {
	if len(modes) > api.MaxFires {
		return api.ErrLimit
	}
	if len(modes) == 0 {
		return api.ErrArg
	}
	for i, name := range modes {
		if !isName(name) {
			return api.ErrName
		}
		if slices.Contains(modes[:i], name) {
			return api.ErrTwice
		}
	}
	return api.OK
}

func checkStreams(f api.Furnace) api.Errno {
	if len(f.Streams) > api.MaxStreams {
		return api.ErrLimit
	}
	isPlace := func(n int) bool { return n == outside || isZone(f, n) }
	isWrong := func(rate int) bool { return !between(rate, 0, api.MaxHold) }
	for _, s := range f.Streams {
		if !isPlace(s.From) || !isPlace(s.To) {
			return api.ErrNone
		}
		if s.From == s.To || len(s.Rates) != len(f.Modes) || slices.ContainsFunc(s.Rates, isWrong) {
			return api.ErrArg
		}
	}
	return api.OK
}

// checkFlows returns the error of what flows in a furnace whose zones, modes and streams may be.
func checkFlows(f api.Furnace) api.Errno {
	for mode := range f.Modes {
		for i, z := range f.Zones {
			in, out := flows(f, i, mode)
			if in != out {
				return api.ErrSum
			}
			if out > z.Hold {
				return api.ErrScope
			}
		}
	}
	return api.OK
}

// flows returns how much flows to a zone, or outside, and from there.
func flows(f api.Furnace, place, mode int) (in, out int) {
	for _, s := range f.Streams {
		if s.To == place {
			in += s.Rates[mode]
		}
		if s.From == place {
			out += s.Rates[mode]
		}
	}
	return in, out
}

// checkState returns the error of a state of a furnace that may be.
func checkState(f api.Furnace, state []api.Span) api.Errno {
	if len(state) != len(f.Zones) || !allMayBe(state) {
		return api.ErrArg
	}
	return api.OK
}

// checkPlan returns the error of a plan for a furnace that may be.
func checkPlan(f api.Furnace, plan []api.Phase) api.Errno {
	if len(plan) > api.MaxPhases {
		return api.ErrLimit
	}
	minutes := 0
	for _, p := range plan {
		if !isMode(f, p.Mode) {
			return api.ErrNone
		}
		if !isTime(p.Minutes) || !mayBe(p.Charge) {
			return api.ErrArg
		}
		if len(p.Gains) > 0 && (len(p.Gains) != len(f.Zones) || !allMayBe(p.Gains)) {
			return api.ErrArg
		}
		minutes += p.Minutes
	}
	if minutes > api.MaxMinutes {
		return api.ErrLimit
	}
	return api.OK
}

// checkAll returns the error of a furnace, then that of the state, then that of the plan.
func checkAll(f api.Furnace, state []api.Span, plan []api.Phase) api.Errno {
	if e := Check(f); e != api.OK {
		return e
	}
	if e := checkState(f, state); e != api.OK {
		return e
	}
	return checkPlan(f, plan)
}

// checkMode returns the error of a furnace, then that of the mode.
func checkMode(f api.Furnace, mode int) api.Errno {
	if e := Check(f); e != api.OK {
		return e
	}
	if !isMode(f, mode) {
		return api.ErrNone
	}
	return api.OK
}

// checkTime returns the error of a furnace, then that of the mode, then that of the minutes.
func checkTime(f api.Furnace, mode, minutes int) api.Errno {
	if e := checkMode(f, mode); e != api.OK {
		return e
	}
	if !isTime(minutes) {
		return api.ErrArg
	}
	return api.OK
}

func isZone(f api.Furnace, zone int) bool { return between(zone, 0, len(f.Zones)-1) }
func isMode(f api.Furnace, mode int) bool { return between(mode, 0, len(f.Modes)-1) }
func isTime(minutes int) bool             { return between(minutes, 0, api.MaxMinutes) }

// findZone returns the number of the first zone with this name, or -1.
func findZone(zones []api.Zone, name string) int {
	return slices.IndexFunc(zones, func(z api.Zone) bool { return z.Name == name })
}

// mayBe tells whether a span is one of values, and not empty.
func mayBe(s api.Span) bool { return within(s, -api.MaxState, api.MaxState) }

func allMayBe(spans []api.Span) bool {
	return !slices.ContainsFunc(spans, func(s api.Span) bool { return !mayBe(s) })
}

// within tells whether a span is one of numbers from least to most, and not empty.
func within(s api.Span, least, most int) bool {
	return least <= s.Low && s.Low <= s.High && s.High <= most
}

func between(n, least, most int) bool { return least <= n && n <= most }

func isName(s string) bool {
	if len(s) == 0 || len(s) > api.MaxName || !isLetter(s[0]) {
		return false
	}
	for i := range len(s) {
		if c := s[i]; !isLetter(c) && c != '-' && (c < '0' || c > '9') {
			return false
		}
	}
	return true
}

func isLetter(c byte) bool { return 'a' <= c && c <= 'z' }
