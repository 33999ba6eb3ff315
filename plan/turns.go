package plan

import (
	"slices"

	"cullet/api"
	"cullet/batch"
	"cullet/forming"
	"cullet/furnace"
)

// Turns returns how many minutes changes from each recipe to each other one take.
func Turns(f api.Furnace, mode, minutes int, b api.Batch, recipes [][]int, oxide int, targets []api.Span) ([][]int, api.Errno) {
	if e := furnace.Check(f); e != api.OK {
		return nil, e
	}
	if e := batch.Check(b); e != api.OK {
		return nil, e
	}
	if len(recipes) > api.MaxColours {
		return nil, api.ErrLimit
	}
	if len(targets) != len(recipes) {
		return nil, api.ErrArg
	}
	turns := table(len(recipes), len(recipes))
	for from, old := range recipes {
		for to, now := range recipes {
			if from == to {
				continue
			}
			_, must, e := furnace.Change(f, mode, minutes, b, old, now, oxide, targets[to])
			if e != api.OK {
				return nil, e
			}
			turns[from][to] = must
		}
	}
	return turns, api.OK
}

// Over returns how many ticks a section needs, from a time on, to stop, to go on with a mode, and until its ware is kept again; false if it cannot.
func Over(m api.Machine, l []api.Switch, section, stop, run, t int) (ticks int, found bool, e api.Errno) {
	// Drive's error is the first one of Soonest
	stopped, found, e := forming.Soonest(m, l, section, stop, t)
	if e != api.OK || !found {
		return 0, false, e
	}
	l = slices.Concat(l, []api.Switch{{Section: section, Time: stopped, Mode: stop}})
	runs, found, e := forming.Soonest(m, l, section, run, stopped)
	if e != api.OK || !found {
		return 0, false, e
	}
	return runs - t + m.Modes[run].Reject*m.Cycle, true, api.OK
}

// Melt returns what the best recipes cost of which the glass of a plan is made.
func Melt(s api.Season, plan [][]int, glasses []api.Batch) (cost int, e api.Errno) {
	w, e := kept(s, plan)
	if e != api.OK {
		return 0, e
	}
	if len(glasses) != len(s.Colours) {
		return 0, api.ErrArg
	}
	var recipes []recipe
	for _, b := range glasses {
		x, e := recipeOf(b)
		if e != api.OK {
			return 0, e
		}
		recipes = append(recipes, x)
	}
	for x := range w.stints(plan) {
		o := w.ovens[x.oven]
		if colour := w.colour(o, x.shift); colour != none {
			cost += recipes[colour].cost * recipes[colour].charges(w.pull(o, x.shift))
		}
	}
	return cost, api.OK
}

// recipe is what one costs, and how many grams of glass it brings at least.
type recipe struct{ cost, grams int }

// recipeOf returns the best recipe of a batch, or batch.Best's error, or ErrNone if there is none.
func recipeOf(b api.Batch) (recipe, api.Errno) {
	best, cost, found, e := batch.Best(b)
	if e != api.OK {
		return recipe{}, e
	}
	if !found {
		return recipe{}, api.ErrNone
	}
	grams, e := batch.Grams(b, best)
	x := recipe{cost: cost}
	for _, span := range grams {
		x.grams += span.Low
	}
	return x, e
}

// charges returns how often a recipe is charged for so many kilograms of glass. As it passes, it brings some.
func (x recipe) charges(kilos int) int { return (1000*kilos + x.grams - 1) / x.grams }
