package plan

import (
	"iter"

	"cullet/api"
)

// dayMinutes is how many minutes a day has.
const dayMinutes = 1440

// outcome is what comes of a furnace's shift on a day: what changes and machines without articles cost, and how many bottles each machine makes.
type outcome struct {
	shift crew
	cost  int
	made  [api.MaxMakers]int
}

// follow returns what comes of a furnace's shift, by what its machines had the day before.
func (w works) follow(o oven, before, now crew) outcome {
	x := outcome{shift: now}
	lost := 0
	if from, to := w.colour(o, before), w.colour(o, now); from != none && to != none && from != to {
		turn := w.Colours[from][to]
		lost, x.cost = turn.Minutes, turn.Cost
	}
	for _, maker := range o.makers {
		article := now[maker]
		if article == none {
			x.cost += w.Makers[maker].Idle
			continue
		}
		minutes := dayMinutes - lost
		if last := before[maker]; last != none && last != article {
			turn := w.Jobs[last][article]
			minutes -= turn.Minutes
			x.cost += turn.Cost
		}
		x.made[maker] = w.Makers[maker].Rates[article] * max(0, minutes) / dayMinutes
	}
	return x
}

// stint is what comes of a plan at a furnace on a day.
type stint struct {
	oven, day int
	outcome
}

// stints tells what comes of a plan, furnace by furnace, day by day.
func (w works) stints(plan [][]int) iter.Seq[stint] {
	return func(yield func(stint) bool) {
		for oven, o := range w.ovens {
			for day := range w.Days {
				x := w.follow(o, w.crew(o, plan, day-1), w.crew(o, plan, day))
				if !yield(stint{oven, day, x}) {
					return
				}
			}
		}
	}
}

// kept returns the works of a season, or the first error of it, or of a plan that shall keep it.
func kept(s api.Season, plan [][]int) (works, api.Errno) {
	w, e := planned(s, plan)
	if e != api.OK {
		return works{}, e
	}
	if !w.keeps(plan) {
		return works{}, api.ErrState
	}
	return w, api.OK
}

// table returns so many lists of so many zeros.
func table(rows, columns int) [][]int {
	all := make([][]int, rows)
	for i := range all {
		all[i] = make([]int, columns)
	}
	return all
}

// Pulls returns each furnace's pull on each day.
func Pulls(s api.Season, plan [][]int) ([][]int, api.Errno) {
	w, e := kept(s, plan)
	if e != api.OK {
		return nil, e
	}
	pulls := table(len(s.Ovens), s.Days)
	for x := range w.stints(plan) {
		pulls[x.oven][x.day] = w.pull(w.ovens[x.oven], x.shift)
	}
	return pulls, api.OK
}

// Made returns how many bottles each machine makes on each day.
func Made(s api.Season, plan [][]int) ([][]int, api.Errno) {
	w, e := kept(s, plan)
	if e != api.OK {
		return nil, e
	}
	made := table(len(s.Makers), s.Days)
	for x := range w.stints(plan) {
		for _, maker := range w.ovens[x.oven].makers {
			made[maker][x.day] = x.made[maker]
		}
	}
	return made, api.OK
}

// counts is a number for each order.
type counts [api.MaxArticles]int

// plus returns what orders have got, and what they get of what is made on a day.
func (w works) plus(got counts, day int, x outcome) counts {
	for i, order := range w.Orders {
		if day > order.Due {
			continue
		}
		for maker, article := range x.shift {
			if article == order.Article {
				got[i] += x.made[maker]
			}
		}
	}
	return got
}

// lacks returns what lacks of each order that gets so many bottles.
func (w works) lacks(got counts) []int {
	var all []int
	for i, order := range w.Orders {
		all = append(all, max(0, order.Quantity-got[i]))
	}
	return all
}

// account returns what a plan costs but for what lacks, and how many bottles each order gets.
func (w works) account(plan [][]int) (cost int, got counts) {
	for x := range w.stints(plan) {
		cost += x.cost
		got = w.plus(got, x.day, x.outcome)
	}
	return cost, got
}

// fines returns what is paid for what lacks.
func (w works) fines(got counts) int {
	sum := 0
	for i, lacks := range w.lacks(got) {
		sum += lacks * w.Orders[i].Penalty
	}
	return sum
}

// Lacks returns what lacks of each order.
func Lacks(s api.Season, plan [][]int) ([]int, api.Errno) {
	w, e := kept(s, plan)
	if e != api.OK {
		return nil, e
	}
	_, got := w.account(plan)
	return w.lacks(got), api.OK
}

// Cost returns what a plan costs.
func Cost(s api.Season, plan [][]int) (int, api.Errno) {
	w, e := kept(s, plan)
	if e != api.OK {
		return 0, e
	}
	cost, got := w.account(plan)
	return cost + w.fines(got), api.OK
}
