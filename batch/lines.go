package batch

import (
	"slices"

	"cullet/api"
)

// form is one side of what is wanted of a glass: coefficients of the oxides, and by how much one of them goes beyond that side of the target. A glass is on the right side if, of all its grams, what goes beyond is together at most 0.
type form struct {
	coefs []int
	over  func(coef int) int
}

// forms returns both sides of the targets of the shares, then of the properties.
func forms(b api.Batch) list[form] {
	var all list[form]
	for i, target := range b.Shares {
		all = append(all, sides(shareCoefs(b, i), target)...)
	}
	for _, p := range b.Properties {
		all = append(all, sides(p.Coefs, p.Target)...)
	}
	return all
}

// shareCoefs returns the coefficients with which a form is the share of an oxide.
func shareCoefs(b api.Batch, oxide int) []int {
	coefs := make([]int, len(b.Oxides))
	coefs[oxide] = 1000
	return coefs
}

func sides(coefs []int, target api.Span) list[form] {
	return list[form]{
		{coefs, func(coef int) int { return coef - target.High }},
		{coefs, func(coef int) int { return target.Low - coef }},
	}
}

// Lines returns the lines of a batch: a recipe passes just if it keeps them all.
func Lines(b api.Batch) ([]api.Line, api.Errno) {
	if e := Check(b); e != api.OK {
		return nil, e
	}
	return lines(b), api.OK
}

func lines(b api.Batch) []api.Line {
	weight := func(m api.Material) int { return -total(m.Content).Low }
	all := []api.Line{newLine(b, weight, -1000*b.Wanted)}
	for _, f := range forms(b) {
		all = append(all, newLine(b, f.factor, 0))
	}
	// Both sides of the redox number's target, multiplied by the weight.
	most := func(m api.Material) int { return 1000000*m.Redox + greatest(-b.Redox.High, total(m.Content)) }
	least := func(m api.Material) int { return greatest(b.Redox.Low, total(m.Content)) - 1000000*m.Redox }
	return append(all, newLine(b, most, 0), newLine(b, least, 0))
}

// factor returns how much a kilogram of a material may bring, at most, of what goes beyond.
func (f form) factor(m api.Material) int {
	n := 0
	for i, s := range m.Content {
		n += greatest(f.over(f.coefs[i]), s)
	}
	return n
}

// greatest returns the greatest product of n and a number of a span.
func greatest(n int, s api.Span) int { return max(n*s.Low, n*s.High) }

func newLine(b api.Batch, factor func(api.Material) int, bound int) api.Line {
	factors := make([]int, len(b.Materials))
	for i, m := range b.Materials {
		factors[i] = factor(m)
	}
	return api.Line{Factors: factors, Bound: bound}
}

// Passes tells whether each glass of a recipe is as it is wanted.
func Passes(b api.Batch, recipe []int) (bool, api.Errno) {
	if e := checkBoth(b, recipe); e != api.OK {
		return false, e
	}
	broken := func(l api.Line) bool { return dot(l.Factors, recipe) > l.Bound }
	return !slices.ContainsFunc(lines(b), broken), api.OK
}
