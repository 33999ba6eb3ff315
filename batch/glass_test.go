package batch_test

import (
	"math"
	"math/rand"
	"slices"
	"testing"

	"cullet/api"
	"cullet/batch"
)

func TestGrams(t *testing.T) {
	got, e := batch.Grams(mix(), []int{80, 60})
	equal(t, "error", e, api.OK)
	equal(t, "grams", got, []api.Span{span(78400, 80000), span(34200, 34800)})
	got, e = batch.Grams(mix(), []int{0, 0})
	equal(t, "error", e, api.OK)
	equal(t, "grams of nothing", got, []api.Span{{}, {}})
}

func TestGlass(t *testing.T) {
	got, e := batch.Glass(mix(), []int{80, 60})
	equal(t, "error", e, api.OK)
	equal(t, "shares", got, []api.Span{span(692, 701), span(299, 308)})
	got, e = batch.Glass(mix(), []int{1, 0})
	equal(t, "error", e, api.OK)
	equal(t, "shares of sand", got, []api.Span{span(1000, 1000), span(0, 0)})
}

func TestValue(t *testing.T) {
	b := full()
	// of 17 times si and -8 times na: 17 * 78400 - 8 * 34800 of 113200 at least, 17 * 80000 - 8 * 34200 of 114200 at most
	got, e := batch.Value(b, []int{80, 60}, 0)
	equal(t, "error", e, api.OK)
	equal(t, "value", got, span(9, 10))
	got, e = batch.Value(b, []int{0, 60}, 0)
	equal(t, "error", e, api.OK)
	equal(t, "value below 0", got, span(-8, -8))
	got, e = batch.Value(b, []int{80, 60}, 1)
	equal(t, "error", e, api.OK)
	equal(t, "value of great coefficients", got, span(-4011, -3851))
}

func TestRedox(t *testing.T) {
	b := mix()
	b.Materials[0].Redox = 2
	got, e := batch.Redox(b, []int{80, 60})
	equal(t, "error", e, api.OK)
	equal(t, "redox", got, span(1393, 1421))
	b.Materials[0].Redox = -2
	got, e = batch.Redox(b, []int{80, 60})
	equal(t, "error", e, api.OK)
	equal(t, "redox below 0", got, span(-1421, -1393))
	b.Materials[0].Redox = 0
	got, e = batch.Redox(b, []int{80, 60})
	equal(t, "error", e, api.OK)
	equal(t, "no redox", got, span(0, 0))
}

// TestRecipeErrors: all that take a recipe return its error behind Check's and before their own.
func TestRecipeErrors(t *testing.T) {
	for _, recipe := range [][]int{nil, {1}, {1, 2, 3}, {-1, 0}, {0, -1}, {api.MaxKilos + 1, 0}, {0, math.MaxInt}, {math.MinInt, 0}} {
		b := full()
		var all []any
		grams, e := batch.Grams(b, recipe)
		all = append(all, grams, e)
		shares, e := batch.Glass(b, recipe)
		all = append(all, shares, e)
		value, e := batch.Value(b, recipe, 7)
		all = append(all, value, e)
		redox, e := batch.Redox(b, recipe)
		all = append(all, redox, e)
		passes, e := batch.Passes(b, recipe)
		all = append(all, passes, e)
		allowed, e := batch.Allowed(b, recipe)
		all = append(all, allowed, e)
		cost, e := batch.Cost(b, recipe)
		all = append(all, cost, e)
		right, cost, found, e := batch.Correct(b, recipe, 0)
		all = append(all, right, cost, found, e)
		if !onlyError(all, api.ErrArg) {
			t.Errorf("%v: %v", recipe, all)
		}
	}
}

func TestGlassErrors(t *testing.T) {
	b := full()
	b.Materials[1].Content[1] = span(0, 580) // of soda alone there may be nothing
	for _, recipe := range [][]int{{0, 0}, {0, 60}} {
		shares, e := batch.Glass(b, recipe)
		value, f := batch.Value(b, recipe, 1)
		redox, g := batch.Redox(b, recipe)
		if !onlyError([]any{shares, e, value, f, redox, g}, api.ErrState) {
			t.Error(recipe, shares, e, value, f, redox, g)
		}
		for _, property := range []int{-1, 2, math.MaxInt, math.MinInt} {
			value, e := batch.Value(b, recipe, property)
			if !onlyError([]any{value, e}, api.ErrNone) {
				t.Error(property, value, e)
			}
		}
	}
	if _, e := batch.Value(mix(), []int{80, 60}, 0); e != api.ErrNone {
		t.Error(e)
	}
}

// TestAllGlasses compares with all glasses that lie at ends.
func TestAllGlasses(t *testing.T) {
	r := rand.New(rand.NewSource(21))
	for range 3000 {
		b := some(r)
		recipe := someRecipe(r, b)
		least, most := sums(b, recipe)
		grams, e := batch.Grams(b, recipe)
		equal(t, "error", e, api.OK)
		for i, s := range grams {
			equal(t, "grams", s, span(least[i], most[i]))
		}
		if weight(least) == 0 {
			continue
		}
		shares, e := batch.Glass(b, recipe)
		equal(t, "error", e, api.OK)
		for i, s := range shares {
			equal(t, "share", s, spanOver(b, recipe, func(g []int) int { return 1000 * g[i] }))
		}
		for i, p := range b.Properties {
			got, e := batch.Value(b, recipe, i)
			equal(t, "error", e, api.OK)
			equal(t, "value", got, spanOver(b, recipe, func(g []int) int { return dot(p.Coefs, g) }))
		}
		redox := dot(recipe, kilos(b, func(m api.Material) int { return m.Redox }))
		got, e := batch.Redox(b, recipe)
		equal(t, "error", e, api.OK)
		equal(t, "redox", got, spanOver(b, recipe, func([]int) int { return 1000000 * redox }))
	}
}

// spanOver returns the span of something that is divided by the weight, over all glasses at ends.
func spanOver(b api.Batch, recipe []int, of func(grams []int) int) api.Span {
	var lows, highs []int
	for _, g := range corners(b, recipe) {
		lows = append(lows, floor(of(g), weight(g)))
		highs = append(highs, ceil(of(g), weight(g)))
	}
	return span(slices.Min(lows), slices.Max(highs))
}

// TestGlassInside: what lies between the ends is in the spans, too.
func TestGlassInside(t *testing.T) {
	r := rand.New(rand.NewSource(22))
	for range 2000 {
		b := some(r)
		recipe := someRecipe(r, b)
		least, most := sums(b, recipe)
		shares, e := batch.Glass(b, recipe)
		if e != api.OK {
			continue
		}
		var g []int
		for i := range least {
			g = append(g, least[i]+r.Intn(most[i]-least[i]+1))
		}
		w := weight(g)
		for i, s := range shares {
			if 1000*g[i] < s.Low*w || 1000*g[i] > s.High*w {
				t.Fatal(b, recipe, g, shares)
			}
		}
		for i, p := range b.Properties {
			v, _ := batch.Value(b, recipe, i)
			if n := dot(p.Coefs, g); n < v.Low*w || n > v.High*w {
				t.Fatal(b, recipe, g, v)
			}
		}
	}
}

// TestGreatNumbers: at the limits of all numbers nothing runs over.
func TestGreatNumbers(t *testing.T) {
	b, recipe := greatest(1)
	value, e := batch.Value(b, recipe, 0)
	equal(t, "error", e, api.OK)
	equal(t, "value", value, span(api.MaxCoef, api.MaxCoef))
	redox, e := batch.Redox(b, recipe)
	equal(t, "error", e, api.OK)
	equal(t, "redox", redox, span(1000000*api.MaxRedox/12000, 1000000))
	is, e := batch.Passes(b, recipe)
	equal(t, "error", e, api.OK)
	equal(t, "passes", is, false)
	b, recipe = greatest(-1)
	value, e = batch.Value(b, recipe, 0)
	equal(t, "error", e, api.OK)
	equal(t, "value", value, span(-api.MaxCoef, -api.MaxCoef))
	redox, e = batch.Redox(b, recipe)
	equal(t, "error", e, api.OK)
	equal(t, "redox", redox, span(-1000000, -83333))
}

// greatest returns a batch with numbers as great as they may be, and its greatest recipe.
func greatest(sign int) (api.Batch, []int) {
	b := api.Batch{Redox: span(-sign*api.MaxCoef, -sign*api.MaxCoef), Wanted: api.MaxKilos}
	content := []api.Span{}
	coefs := []int{}
	for i := range api.MaxOxides {
		b.Oxides = append(b.Oxides, "o"+string(rune('a'+i)))
		b.Shares = append(b.Shares, span(0, 0))
		content = append(content, span(0, 1000))
		coefs = append(coefs, sign*api.MaxCoef)
	}
	content[0].Low = 1000
	recipe := []int{}
	for i := range api.MaxMaterials {
		b.Materials = append(b.Materials, api.Material{Name: b.Oxides[i], Price: api.MaxPrice, Redox: sign * api.MaxRedox, Least: api.MaxKilos, Most: api.MaxKilos, Step: 1, Content: content})
		recipe = append(recipe, api.MaxKilos)
	}
	for i := range api.MaxProperties {
		b.Properties = append(b.Properties, api.Property{Name: b.Oxides[i], Coefs: coefs, Target: span(-sign*api.MaxCoef, -sign*api.MaxCoef)})
	}
	return b, recipe
}
