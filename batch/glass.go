package batch

import (
	"slices"

	"cullet/api"
)

// Grams returns the least and the greatest grams of each oxide that a recipe brings.
func Grams(b api.Batch, recipe []int) ([]api.Span, api.Errno) {
	if e := checkBoth(b, recipe); e != api.OK {
		return nil, e
	}
	return grams(b, recipe), api.OK
}

func grams(b api.Batch, recipe []int) []api.Span {
	spans := make([]api.Span, len(b.Oxides))
	for i, m := range b.Materials {
		for j, s := range m.Content {
			spans[j].Low += recipe[i] * s.Low
			spans[j].High += recipe[i] * s.High
		}
	}
	return spans
}

// Glass returns the share of each oxide in all glasses of a recipe, in thousandths.
func Glass(b api.Batch, recipe []int) (shares []api.Span, e api.Errno) {
	if e := checkBoth(b, recipe); e != api.OK {
		return nil, e
	}
	g := grams(b, recipe)
	if total(g).Low == 0 {
		return nil, api.ErrState
	}
	for i := range b.Oxides {
		shares = append(shares, value(shareCoefs(b, i), g))
	}
	return shares, api.OK
}

// Value returns a property of all glasses of a recipe.
func Value(b api.Batch, recipe []int, property int) (api.Span, api.Errno) {
	if e := checkBoth(b, recipe); e != api.OK {
		return api.Span{}, e
	}
	if !between(property, 0, len(b.Properties)-1) {
		return api.Span{}, api.ErrNone
	}
	g := grams(b, recipe)
	if total(g).Low == 0 {
		return api.Span{}, api.ErrState
	}
	return value(b.Properties[property].Coefs, g), api.OK
}

// value returns the span of the means of the coefficients, weighted by the grams; the least grams are together above 0.
func value(coefs []int, grams []api.Span) api.Span {
	opposite := make([]int, len(coefs))
	for i, c := range coefs {
		opposite[i] = -c
	}
	return api.Span{Low: -greatestMean(opposite, grams), High: greatestMean(coefs, grams)}
}

// greatestMean returns the greatest weighted mean, rounded up. In the glass that has it there is as much as can be of each oxide whose coefficient is not below the mean, and as little as can be of the others: so one of the coefficients parts them.
func greatestMean(coefs []int, grams []api.Span) int {
	var means []int
	for _, least := range coefs {
		sum, weight := 0, 0
		for i, c := range coefs {
			g := grams[i].Low
			if c >= least {
				g = grams[i].High
			}
			sum += c * g
			weight += g
		}
		means = append(means, up(sum, weight))
	}
	return slices.Max(means)
}

// Redox returns the redox number of all glasses of a recipe.
func Redox(b api.Batch, recipe []int) (api.Span, api.Errno) {
	if e := checkBoth(b, recipe); e != api.OK {
		return api.Span{}, e
	}
	weight := total(grams(b, recipe))
	if weight.Low == 0 {
		return api.Span{}, api.ErrState
	}
	sum := 0
	for i, m := range b.Materials {
		sum += 1000000 * m.Redox * recipe[i]
	}
	return api.Span{
		Low:  min(down(sum, weight.Low), down(sum, weight.High)),
		High: max(up(sum, weight.Low), up(sum, weight.High)),
	}, api.OK
}
