package furnace

import (
	"cullet/api"
	"cullet/batch"
)

// Gases returns the grams that a recipe loses on melting.
func Gases(b api.Batch, recipe []int) (api.Span, api.Errno) {
	glass, e := melted(b, recipe)
	if e != api.OK {
		return api.Span{}, e
	}
	grams := 0
	for _, kilos := range recipe {
		grams += 1000 * kilos
	}
	return api.Span{Low: max(0, grams-glass.High), High: max(0, grams-glass.Low)}, api.OK
}

// melted returns the grams of glass that a recipe brings.
func melted(b api.Batch, recipe []int) (api.Span, api.Errno) {
	grams, e := batch.Grams(b, recipe)
	return total(grams), e
}

// Charges returns how many times a recipe must be charged for what is pulled in so many minutes.
func Charges(f api.Furnace, mode, minutes int, b api.Batch, recipe []int) (api.Span, api.Errno) {
	if e := checkTime(f, mode, minutes); e != api.OK {
		return api.Span{}, e
	}
	glass, e := melted(b, recipe)
	if e != api.OK {
		return api.Span{}, e
	}
	if glass.Low == 0 {
		return api.Span{}, api.ErrState
	}
	grams := 1000 * pull(f, mode) * minutes
	return api.Span{Low: up(grams, glass.High), High: up(grams, glass.Low)}, api.OK
}

// Change returns First of an oxide's share in what is pulled, from the minute on in which a new recipe is charged instead of an old one.
func Change(f api.Furnace, mode, minutes int, b api.Batch, old, now []int, oxide int, target api.Span) (may, must int, e api.Errno) {
	if e := checkTime(f, mode, minutes); e != api.OK {
		return 0, 0, e
	}
	before, e := batch.Glass(b, old)
	if e != api.OK {
		return 0, 0, e
	}
	behind, e := batch.Glass(b, now)
	if e != api.OK {
		return 0, 0, e
	}
	if !between(oxide, 0, len(b.Oxides)-1) {
		return 0, 0, api.ErrNone
	}
	if !mayBe(target) {
		return 0, 0, api.ErrArg
	}
	if pull(f, mode) == 0 {
		return 0, 0, api.ErrState
	}
	state := make([]api.Span, len(f.Zones))
	for i := range state {
		state[i] = before[oxide]
	}
	return First(f, state, []api.Phase{{Mode: mode, Minutes: minutes, Charge: behind[oxide]}}, target)
}
