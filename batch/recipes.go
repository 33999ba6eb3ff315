package batch

import (
	"iter"
	"slices"

	"cullet/api"
)

// Allowed tells whether the materials allow the kilograms of a recipe.
func Allowed(b api.Batch, recipe []int) (bool, api.Errno) {
	if e := checkBoth(b, recipe); e != api.OK {
		return false, e
	}
	for i, m := range b.Materials {
		if !between(recipe[i], m.Least, m.Most) || (recipe[i]-m.Least)%m.Step != 0 {
			return false, api.OK
		}
	}
	return true, api.OK
}

// Cost returns what a recipe costs.
func Cost(b api.Batch, recipe []int) (int, api.Errno) {
	if e := checkBoth(b, recipe); e != api.OK {
		return 0, e
	}
	return dot(prices(b), recipe), api.OK
}

// Best returns the cheapest allowed recipe that passes, and what it costs.
func Best(b api.Batch) (recipe []int, cost int, found bool, e api.Errno) {
	if e := Check(b); e != api.OK {
		return nil, 0, false, e
	}
	if tooMany(b) {
		return nil, 0, false, api.ErrScope
	}
	recipe, cost, found = cheapest(b, make([]int, len(b.Materials)), 1, 1)
	return recipe, cost, found, api.OK
}

// Correct returns the cheapest allowed recipe of which so many lots put the wrong recipe right, and what one lot costs.
func Correct(b api.Batch, wrong []int, lots int) (recipe []int, cost int, found bool, e api.Errno) {
	if e := checkBoth(b, wrong); e != api.OK {
		return nil, 0, false, e
	}
	if !between(lots, 1, api.MaxCorrect) {
		return nil, 0, false, api.ErrArg
	}
	if tooMany(b) {
		return nil, 0, false, api.ErrScope
	}
	recipe, cost, found = cheapest(b, wrong, lots, lots+1)
	return recipe, cost, found, api.OK
}

// cheapest returns the first one of the cheapest recipes of which so many lots, beside what is there, keep all lines with their bounds so many times as great.
func cheapest(b api.Batch, there []int, lots, times int) (recipe []int, cost int, found bool) {
	all := lines(b)
	each := prices(b)
	least := dot(each, leasts(b))
search:
	for r := range recipes(b) {
		c := dot(each, r)
		if found && c >= cost {
			continue
		}
		for _, l := range all {
			if dot(l.Factors, there)+lots*dot(l.Factors, r) > times*l.Bound {
				continue search
			}
		}
		recipe, cost, found = slices.Clone(r), c, true
		if cost == least { // nothing behind it is cheaper
			break search
		}
	}
	return recipe, cost, found
}

// recipes tells the allowed recipes, the least list first. The next one takes the place of the one before it in the same memory.
func recipes(b api.Batch) iter.Seq[[]int] {
	return func(yield func([]int) bool) {
		r := leasts(b)
		for yield(r) && step(b, r) {
		}
	}
}

// step makes an allowed recipe the next one, or tells that it was the last one.
func step(b api.Batch, recipe []int) bool {
	for i := len(recipe) - 1; i >= 0; i-- {
		m := b.Materials[i]
		if recipe[i]+m.Step <= m.Most {
			recipe[i] += m.Step
			return true
		}
		recipe[i] = m.Least
	}
	return false
}

// tooMany tells whether there are more allowed recipes than are searched.
func tooMany(b api.Batch) bool {
	n := 1
	for _, m := range b.Materials {
		n *= steps(m) + 1
		if n > api.MaxChoices {
			return true
		}
	}
	return false
}

// steps returns how many steps lie between the least and the greatest allowed kilograms of a material.
func steps(m api.Material) int { return (m.Most - m.Least) / m.Step }

func leasts(b api.Batch) []int {
	r := make([]int, len(b.Materials))
	for i, m := range b.Materials {
		r[i] = m.Least
	}
	return r
}

func prices(b api.Batch) []int {
	r := make([]int, len(b.Materials))
	for i, m := range b.Materials {
		r[i] = m.Price
	}
	return r
}
