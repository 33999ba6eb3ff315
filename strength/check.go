package strength

import (
	"slices"

	"cullet/api"
)

// failure is what a function goes wrong with.
type failure struct{ errno api.Errno }

// need goes wrong with an error unless something is so.
func need(is bool, e api.Errno) {
	if !is {
		panic(failure{e})
	}
}

// needOK goes wrong with the error of a called function, if it has one.
func needOK(e api.Errno) { need(e == api.OK, e) }

// errorOf returns the error with which a function goes wrong, or OK.
func errorOf(do func()) (e api.Errno) {
	// What would leave without a failure must not look like a result.
	e = api.ErrState
	defer func() {
		if f, ok := recover().(failure); ok {
			e = f.errno
		}
	}()
	do()
	return api.OK
}

// told returns what a function returns, or the error with which it goes wrong.
func told[T any](find func() T) (result T, e api.Errno) {
	e = errorOf(func() { result = find() })
	return result, e
}

// Check returns the first error of a bottle, or OK.
func Check(b api.Bottle) api.Errno {
	return errorOf(func() { needBottle(b) })
}

func needBottle(b api.Bottle) {
	need(len(b.Rings) <= api.MaxRings, api.ErrLimit)
	need(len(b.Rings) > 0, api.ErrArg)
	var shares api.Span
	for _, r := range rings(b) {
		needRing(r)
		shares.Low += r.Share.Low
		shares.High += r.Share.High
	}
	need(shares.Low <= 1000 && 1000 <= shares.High, api.ErrSum)
	need(between(b.Flaw, 1, api.MaxFlaw), api.ErrArg)
	need(between(b.Tough, 0, api.MaxTough), api.ErrArg)
}

func needRing(r api.Ring) {
	need(within(r.Radius, 1, api.MaxRadius), api.ErrArg)
	need(within(r.Height, 1, api.MaxHeight), api.ErrArg)
	need(within(r.Share, 0, 1000), api.ErrArg)
	need(within(r.Factor, 0, api.MaxFactor), api.ErrArg)
	need(within(r.Hit, 0, api.MaxFactor), api.ErrArg)
}

func needLoad(l api.Load) {
	need(between(l.Press, 0, api.MaxPress), api.ErrArg)
	need(between(l.Force, 0, api.MaxForce), api.ErrArg)
	need(between(l.Speed, 0, api.MaxSpeed), api.ErrArg)
	need(between(l.Other, 0, api.MaxShock), api.ErrArg)
}

// needBoth goes wrong with the error of a bottle, then that of a load.
func needBoth(b api.Bottle, l api.Load) {
	needBottle(b)
	needLoad(l)
}

// needWall goes wrong with the error of a bottle, then that of the thicknesses of its rings, then that of a load.
func needWall(b api.Bottle, thick []api.Span, l api.Load) {
	needBottle(b)
	need(len(thick) == len(b.Rings), api.ErrArg)
	for _, t := range thick {
		need(within(t, 1, api.MaxThick), api.ErrArg)
	}
	needLoad(l)
}

func between(n, least, most int) bool { return least <= n && n <= most }

// allBetween tells whether there are so many numbers, all from least to most.
func allBetween(numbers []int, count, least, most int) bool {
	return len(numbers) == count && !slices.ContainsFunc(numbers, func(n int) bool { return !between(n, least, most) })
}

// within tells whether a span is one of numbers from least to most, and not empty.
func within(s api.Span, least, most int) bool {
	return least <= s.Low && s.Low <= s.High && s.High <= most
}
