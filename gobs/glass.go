package gobs

import (
	"slices"

	"cullet/api"
	"cullet/batch"
	"cullet/furnace"
)

// Even returns the number of the first state of a plan in which the values of all zones may lie at most so far apart, and of the first one from which on they surely do, to the end; -1 if there is none.
func Even(f api.Furnace, state []api.Span, plan []api.Phase, most int) (may, must int, e api.Errno) {
	if e := checkRun(f, state, plan); e != api.OK {
		return 0, 0, e
	}
	if !between(most, 0, api.MaxState) {
		return 0, 0, api.ErrArg
	}
	all, e := states(f, state, plan)
	if e != api.OK {
		return 0, 0, e
	}
	may = slices.IndexFunc(all, func(s []api.Span) bool { return nearest(s) <= most })
	must = len(all)
	for must > 0 && farthest(all[must-1]) <= most {
		must--
	}
	if must == len(all) {
		must = -1
	}
	return may, must, api.OK
}

// nearest returns how far apart the values of a state are at least; 0 or less if they may be one.
func nearest(state []api.Span) int {
	low, high := state[0].Low, state[0].High
	for _, s := range state {
		low, high = max(low, s.Low), min(high, s.High)
	}
	return low - high
}

// farthest returns how far apart the values of a state are at most. A zone has one value, so it is not apart from itself.
func farthest(state []api.Span) int {
	most := 0
	for i, a := range state {
		for _, b := range state[:i] {
			most = max(most, apart(a, b))
		}
	}
	return most
}

// apart returns how far two numbers of these spans may be apart.
func apart(a, b api.Span) int { return max(a.High-b.Low, b.High-a.Low) }

// states returns all states of a plan that has no error, or the last error of furnace.Run.
func states(f api.Furnace, state []api.Span, plan []api.Phase) ([][]api.Span, api.Errno) {
	all := [][]api.Span{state}
	for _, p := range plan {
		minute := p
		minute.Minutes = 1
		for range p.Minutes {
			behind, e := furnace.Run(f, all[len(all)-1], []api.Phase{minute})
			if e != api.OK {
				return nil, e
			}
			all = append(all, behind)
		}
	}
	return all, api.OK
}

// checkRun returns the errors of furnace.Run but the last one. That one is left out by running no minute, so what the minutes may be together is checked here.
func checkRun(f api.Furnace, state []api.Span, plan []api.Phase) api.Errno {
	still, minutes := slices.Clone(plan), 0
	for i, p := range still {
		if between(p.Minutes, 0, api.MaxMinutes) {
			minutes += p.Minutes
			still[i].Minutes = 0
		}
	}
	if _, e := furnace.Run(f, state, still); e != api.OK {
		return e
	}
	if minutes > api.MaxMinutes {
		return api.ErrLimit
	}
	return api.OK
}

// Drift returns by how many decigrams the gobs' weight drifts at most in a minute of a plan, from one minute to the next one.
func Drift(f api.Furnace, state []api.Span, plan []api.Phase, each, cuts int) (int, api.Errno) {
	if e := checkRun(f, state, plan); e != api.OK {
		return 0, e
	}
	if !between(each, 0, api.MaxGain) || !between(cuts, 1, api.MaxGob) {
		return 0, api.ErrArg
	}
	if _, e := furnace.Run(f, state, plan); e != api.OK {
		return 0, e
	}
	outs, e := furnace.Outs(f, state, plan)
	if e != api.OK {
		return 0, e
	}
	change := 0
	for i := 1; i < len(outs); i++ {
		change = max(change, apart(outs[i-1], outs[i]))
	}
	return ceil(change*each, cuts), api.OK
}

// Cuts returns how many gobs of these weights come in a minute of a mode.
func Cuts(f api.Furnace, mode int, weights api.Span) (api.Span, api.Errno) {
	pull, e := furnace.Pull(f, mode)
	if e != api.OK {
		return api.Span{}, e
	}
	const kilo = 10000 // decigrams
	return share(api.Span{Low: kilo * pull, High: kilo * pull}, weights)
}

// Count returns how many gobs of these weights come of a recipe's glass.
func Count(b api.Batch, recipe []int, weights api.Span) (api.Span, api.Errno) {
	grams, e := batch.Grams(b, recipe)
	if e != api.OK {
		return api.Span{}, e
	}
	const gram = 10 // decigrams
	var glass api.Span
	for _, s := range grams {
		glass.Low += gram * s.Low
		glass.High += gram * s.High
	}
	return share(glass, weights)
}

// share returns how many gobs of these weights come of so much glass.
func share(glass, weights api.Span) (api.Span, api.Errno) {
	if !within(weights, 1, api.MaxGob) {
		return api.Span{}, api.ErrArg
	}
	return api.Span{Low: glass.Low / weights.High, High: ceil(glass.High, weights.Low)}, api.OK
}

// ceil returns a / b, rounded up; a is not below 0, b above 0.
func ceil(a, b int) int { return (a + b - 1) / b }
