package inspect

import (
	"slices"

	"cullet/api"
)

// Check returns the first error of a line of inspection, or OK.
func Check(c api.Checker) api.Errno {
	if !between(c.Every, 1, api.MaxClock) {
		return api.ErrArg
	}
	if e := checkFlaws(c.Flaws); e != api.OK {
		return e
	}
	return checkStands(c)
}

func checkFlaws(flaws []api.Flaw) api.Errno {
	if len(flaws) > api.MaxFlaws {
		return api.ErrLimit
	}
	for i, x := range flaws {
		if !isName(x.Name) {
			return api.ErrName
		}
		if findFlaw(flaws[:i], x.Name) >= 0 {
			return api.ErrTwice
		}
		if !between(x.Need, 0, api.MaxStands) {
			return api.ErrArg
		}
	}
	return api.OK
}

func checkStands(c api.Checker) api.Errno {
	if len(c.Stands) > api.MaxStands {
		return api.ErrLimit
	}
	for i, x := range c.Stands {
		if !isName(x.Name) {
			return api.ErrName
		}
		if findStand(c.Stands[:i], x.Name) >= 0 {
			return api.ErrTwice
		}
		if e := checkClaims(x.Claims, len(c.Flaws)); e != api.OK {
			return e
		}
	}
	return api.OK
}

// checkClaims returns the first error of a station's claims for some of so many classes.
func checkClaims(claims []api.Claim, classes int) api.Errno {
	if len(claims) > api.MaxFlaws {
		return api.ErrLimit
	}
	for i, x := range claims {
		if !isIndex(x.Class, classes) {
			return api.ErrNone
		}
		if findClaim(claims[:i], x.Class) >= 0 {
			return api.ErrTwice
		}
		if !between(x.Of, 1, api.MaxOf) || !between(x.Miss, 0, x.Of) {
			return api.ErrArg
		}
	}
	return api.OK
}

// CheckLog returns the first error of a line of inspection and its log, or OK.
func CheckLog(c api.Checker, l []api.Run) api.Errno {
	if e := Check(c); e != api.OK {
		return e
	}
	if len(l) > api.MaxRuns {
		return api.ErrLimit
	}
	for i, x := range l {
		if x.Kind != api.RuBottle && x.Kind != api.RuChallenge || !between(x.Time, 0, api.MaxClock) {
			return api.ErrArg
		}
		if i > 0 && l[i-1].Time > x.Time {
			return api.ErrState
		}
		if e := checkRun(c, x); e != api.OK {
			return e
		}
	}
	return api.OK
}

// checkRun returns the error of what an entry says by its kind.
func checkRun(c api.Checker, x api.Run) api.Errno {
	if x.Kind == api.RuBottle {
		if !between(x.Lot, 0, api.MaxLotNo) || !between(x.Number, 0, api.MaxNumber) || x.Stand != 0 || x.Class != 0 {
			return api.ErrArg
		}
		return api.OK
	}
	if !isIndex(x.Stand, len(c.Stands)) || !isIndex(x.Class, len(c.Flaws)) {
		return api.ErrNone
	}
	if findClaim(c.Stands[x.Stand].Claims, x.Class) < 0 {
		return api.ErrScope
	}
	if x.Lot != 0 || x.Number != 0 {
		return api.ErrArg
	}
	return api.OK
}

// findFlaw returns the number of the first class with this name, or -1.
func findFlaw(flaws []api.Flaw, name string) int {
	return slices.IndexFunc(flaws, func(x api.Flaw) bool { return x.Name == name })
}

// findStand returns the number of the first station with this name, or -1.
func findStand(stands []api.Stand, name string) int {
	return slices.IndexFunc(stands, func(x api.Stand) bool { return x.Name == name })
}

// findClaim returns which one of claims is for a class, or -1.
func findClaim(claims []api.Claim, class int) int {
	return slices.IndexFunc(claims, func(x api.Claim) bool { return x.Class == class })
}

func isIndex(n, count int) bool { return between(n, 0, count-1) }

func between(n, least, most int) bool { return least <= n && n <= most }

func isName(s string) bool {
	if len(s) == 0 || len(s) > api.MaxName || !isLetter(s[0]) {
		return false
	}
	for i := range len(s) {
		if c := s[i]; !isLetter(c) && c != '-' && (c < '0' || c > '9') {
			return false
		}
	}
	return true
}

func isLetter(c byte) bool { return 'a' <= c && c <= 'z' }
