package gobs

import (
	"slices"

	"cullet/api"
)

// Check returns the first error of a loop, or OK.
func Check(l api.Loop) api.Errno {
	if !within(l.Band, 0, api.MaxGob) || !within(l.Gain, 0, api.MaxGain) || !within(l.Tube, 0, api.MaxTube) {
		return api.ErrArg
	}
	if !between(l.Drift, 0, api.MaxGain) || !between(l.Error, 0, api.MaxGain) || !between(l.Every, 1, api.MaxEvery) {
		return api.ErrArg
	}
	return api.OK
}

// Worst returns how wrong a scanner is at most.
func Worst(s api.Scanner) (int, api.Errno) {
	if !between(s.Acc, 0, api.MaxGain) || !between(s.Drift, 0, api.MaxGain) || !between(s.Every, 0, api.MaxEvery) {
		return 0, api.ErrArg
	}
	return s.Acc + s.Drift*s.Every, api.OK
}

// checkSet returns the error of a loop, then that of cells.
func checkSet(l api.Loop, set []api.Cell) api.Errno {
	if e := Check(l); e != api.OK {
		return e
	}
	return checkCells(l, set)
}

// checkCells returns the error of cells of a loop that may be.
func checkCells(l api.Loop, set []api.Cell) api.Errno {
	if slices.ContainsFunc(set, func(c api.Cell) bool { return len(c.Weights) > api.MaxPieces }) {
		return api.ErrLimit
	}
	for i, c := range set {
		if !between(c.Phase, 0, l.Every-1) || !between(c.Tube, l.Tube.Low, l.Tube.High) || !mayBe(c.Weights) {
			return api.ErrArg
		}
		if i > 0 && byPlace(set[i-1], c) >= 0 {
			return api.ErrArg
		}
	}
	return api.OK
}

// mayBe tells whether spans may be those of a cell.
func mayBe(spans []api.Span) bool {
	for i, s := range spans {
		if !within(s, -api.MaxGob, 2*api.MaxGob) || i > 0 && s.Low <= spans[i-1].High+1 {
			return false
		}
	}
	return len(spans) > 0
}

func checkReadings(readings []int) api.Errno {
	if len(readings) > api.MaxGobs {
		return api.ErrLimit
	}
	if slices.ContainsFunc(readings, func(r int) bool { return !between(r, -api.MaxGob, 2*api.MaxGob) }) {
		return api.ErrArg
	}
	return api.OK
}

// checkLimits returns the error of a loop, then that of cells, then that of limits.
func checkLimits(l api.Loop, set []api.Cell, limits api.Span) api.Errno {
	if e := checkSet(l, set); e != api.OK {
		return e
	}
	if !within(limits, 0, api.MaxGob) {
		return api.ErrArg
	}
	return api.OK
}

// within tells whether a span is one of numbers from least to most, and not empty.
func within(s api.Span, least, most int) bool {
	return least <= s.Low && s.Low <= s.High && s.High <= most
}

func between(n, least, most int) bool { return least <= n && n <= most }
