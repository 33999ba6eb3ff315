package plan

import (
	"cmp"
	"slices"

	"cullet/api"
)

// isSmall tells whether at most MaxPlans plans keep the season. Each furnace has a shift that may be.
func (w works) isSmall() bool {
	plans := 1
count:
	for range w.Days {
		for _, o := range w.ovens {
			plans *= len(o.shifts)
			if plans > api.MaxPlans {
				break count
			}
		}
	}
	return plans <= api.MaxPlans
}

// search is a plan that is gone on with, and the best one that was found so far.
type search struct {
	works
	plan, best [][]int
	cost       int
	found      bool
}

// from goes on with the plan in all ways, from a step on: the steps are all furnaces on the first day, then all on the next one.
func (x *search) from(step, cost int, got counts) {
	if x.found && cost > x.cost {
		return
	}
	if step == x.Days*len(x.ovens) {
		x.take(cost + x.fines(got))
		return
	}
	day, o := step/len(x.ovens), x.ovens[step%len(x.ovens)]
	before := x.crew(o, x.plan, day-1)
	for _, shift := range o.shifts {
		for _, maker := range o.makers {
			x.plan[maker][day] = shift[maker]
		}
		y := x.follow(o, before, shift)
		x.from(step+1, cost+y.cost, x.plus(got, day, y))
	}
}

// take keeps the plan if it is better than the best one.
func (x *search) take(cost int) {
	if x.found && cmp.Or(cmp.Compare(cost, x.cost), compareAll(x.plan, x.best)) >= 0 {
		return
	}
	x.cost, x.found = cost, true
	x.best = nil
	for _, days := range x.plan {
		x.best = append(x.best, slices.Clone(days))
	}
}

// compareAll compares lists of lists, list by list.
func compareAll[T cmp.Ordered](a, b [][]T) int { return slices.CompareFunc(a, b, slices.Compare[[]T]) }

// Best returns the cheapest plan that keeps the season, and what it costs; false if there is none.
func Best(s api.Season) (plan [][]int, cost int, found bool, e api.Errno) {
	w, e := worksOf(s)
	if e != api.OK {
		return nil, 0, false, e
	}
	if w.stands() {
		return nil, 0, false, api.OK
	}
	if !w.isSmall() {
		return nil, 0, false, api.ErrScope
	}
	x := search{works: w, plan: table(len(s.Makers), s.Days)}
	x.from(0, 0, counts{})
	return x.best, x.cost, true, api.OK
}
