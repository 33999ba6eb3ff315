package batch

import (
	"slices"

	"cullet/api"
)

// Check returns the first error of a batch, or OK.
func Check(b api.Batch) api.Errno {
	if e := checkOxides(b.Oxides); e != api.OK {
		return e
	}
	if e := checkMaterials(b); e != api.OK {
		return e
	}
	if !allWithin(b.Shares, len(b.Oxides), 0, 1000) {
		return api.ErrArg
	}
	if e := checkProperties(b); e != api.OK {
		return e
	}
	if !within(b.Redox, -api.MaxCoef, api.MaxCoef) || !between(b.Wanted, 1, api.MaxKilos) {
		return api.ErrArg
	}
	return api.OK
}

func checkOxides(oxides []string) api.Errno {
	if len(oxides) > api.MaxOxides {
		return api.ErrLimit
	}
	if len(oxides) == 0 {
		return api.ErrArg
	}
	for i, name := range oxides {
		if !isName(name) {
			return api.ErrName
		}
		if slices.Contains(oxides[:i], name) {
			return api.ErrTwice
		}
	}
	return api.OK
}

func checkMaterials(b api.Batch) api.Errno {
	if len(b.Materials) > api.MaxMaterials {
		return api.ErrLimit
	}
	if len(b.Materials) == 0 {
		return api.ErrArg
	}
	for i, m := range b.Materials {
		if !isName(m.Name) {
			return api.ErrName
		}
		if slices.ContainsFunc(b.Materials[:i], func(x api.Material) bool { return x.Name == m.Name }) {
			return api.ErrTwice
		}
		if e := checkNumbers(m, len(b.Oxides)); e != api.OK {
			return e
		}
	}
	return api.OK
}

func checkNumbers(m api.Material, oxides int) api.Errno {
	if !between(m.Price, 0, api.MaxPrice) || !between(m.Redox, -api.MaxRedox, api.MaxRedox) {
		return api.ErrArg
	}
	if !between(m.Least, 0, api.MaxKilos) || !between(m.Most, m.Least, api.MaxKilos) || !between(m.Step, 1, api.MaxKilos) {
		return api.ErrArg
	}
	if !allWithin(m.Content, oxides, 0, 1000) {
		return api.ErrArg
	}
	if total(m.Content).Low > 1000 {
		return api.ErrSum
	}
	return api.OK
}

func checkProperties(b api.Batch) api.Errno {
	if len(b.Properties) > api.MaxProperties {
		return api.ErrLimit
	}
	for i, p := range b.Properties {
		if !isName(p.Name) {
			return api.ErrName
		}
		if slices.ContainsFunc(b.Properties[:i], func(x api.Property) bool { return x.Name == p.Name }) {
			return api.ErrTwice
		}
		if !allBetween(p.Coefs, len(b.Oxides), -api.MaxCoef, api.MaxCoef) || !within(p.Target, -api.MaxCoef, api.MaxCoef) {
			return api.ErrArg
		}
	}
	return api.OK
}

// checkRecipe returns the error of a recipe of a batch that may be.
func checkRecipe(b api.Batch, recipe []int) api.Errno {
	if !allBetween(recipe, len(b.Materials), 0, api.MaxKilos) {
		return api.ErrArg
	}
	return api.OK
}

// checkBoth returns the error of a batch, then that of its recipe.
func checkBoth(b api.Batch, recipe []int) api.Errno {
	if e := Check(b); e != api.OK {
		return e
	}
	return checkRecipe(b, recipe)
}

func isName(s string) bool {
	if len(s) == 0 || len(s) > api.MaxName || !isLetter(s[0]) {
		return false
	}
	for i := range len(s) {
		if c := s[i]; !isLetter(c) && c != '-' && (c < '0' || c > '9') {
			return false
		}
	}
	return true
}

func isLetter(c byte) bool { return 'a' <= c && c <= 'z' }

func between(n, least, most int) bool { return least <= n && n <= most }

// allBetween tells whether there are so many numbers, all from least to most.
func allBetween(numbers []int, count, least, most int) bool {
	return len(numbers) == count && !slices.ContainsFunc(numbers, func(n int) bool { return !between(n, least, most) })
}

// within tells whether a span is one of numbers from least to most, and not empty.
func within(s api.Span, least, most int) bool {
	return least <= s.Low && s.Low <= s.High && s.High <= most
}

// allWithin tells whether there are so many spans, all within least and most.
func allWithin(spans []api.Span, count, least, most int) bool {
	return len(spans) == count && !slices.ContainsFunc(spans, func(s api.Span) bool { return !within(s, least, most) })
}
