package moulds

import (
	"slices"

	"cullet/api"
)

// Check returns the first error of a shop, or OK.
func Check(s api.Shop) api.Errno {
	if !between(s.Cavities, 1, api.MaxCavities) || !between(s.High, 0, api.MaxDelay) || !between(s.Low, 0, s.High) || !between(s.Swap, 0, api.MaxDelay) {
		return api.ErrArg
	}
	if e := checkMoulds(s.Moulds); e != api.OK {
		return e
	}
	return checkMounts(s)
}

func checkMoulds(moulds []api.Mould) api.Errno {
	if len(moulds) > api.MaxMoulds {
		return api.ErrLimit
	}
	for i, x := range moulds {
		if !between(x.Number, 1, api.MaxNumber) || !between(x.Life, 0, api.MaxLife) {
			return api.ErrArg
		}
		if findMould(moulds[:i], x.Number) >= 0 {
			return api.ErrTwice
		}
	}
	return api.OK
}

func checkMounts(s api.Shop) api.Errno {
	if len(s.Mounts) > api.MaxMounts {
		return api.ErrLimit
	}
	for i, x := range s.Mounts {
		if !isIndex(x.Mould, len(s.Moulds)) || !isPlace(s, placeOf(x)) {
			return api.ErrNone
		}
		if !isClock(x.From) || !isClock(x.To) || x.From >= x.To {
			return api.ErrArg
		}
		if i > 0 && s.Mounts[i-1].From > x.From {
			return api.ErrState
		}
		clashes := func(before api.Mount) bool { return clash(before, x) }
		if slices.ContainsFunc(s.Mounts[:i], clashes) {
			return api.ErrClash
		}
	}
	return api.OK
}

// clash tells whether two mounts have a time in common, and a place or a mould, too.
func clash(a, b api.Mount) bool {
	return a.From < b.To && b.From < a.To && (placeOf(a) == placeOf(b) || a.Mould == b.Mould)
}

// findMould returns which mould has a number, or -1.
func findMould(moulds []api.Mould, number int) int {
	return slices.IndexFunc(moulds, func(x api.Mould) bool { return x.Number == number })
}

// isPlace tells whether there is such a cavity in a section of some machine.
func isPlace(s api.Shop, p place) bool {
	return isIndex(p.section, api.MaxSections) && isIndex(p.cavity, s.Cavities)
}

func isClock(n int) bool { return between(n, 0, api.MaxClock) }

func isIndex(n, count int) bool { return between(n, 0, count-1) }

func between(n, least, most int) bool { return least <= n && n <= most }
