package batch_test

import (
	"math"
	"math/rand"
	"slices"
	"testing"

	"cullet/api"
	"cullet/batch"
)

func TestAllowed(t *testing.T) {
	b := mix()
	b.Materials[0].Least, b.Materials[0].Most, b.Materials[0].Step = 10, 65, 20
	for _, x := range []struct {
		recipe []int
		want   bool
	}{{[]int{10, 0}, true}, {[]int{30, 20}, true}, {[]int{50, 100}, true}, {[]int{70, 0}, false}, {[]int{65, 0}, false}, {[]int{0, 0}, false}, {[]int{20, 0}, false}, {[]int{10, 110}, false}, {[]int{10, 10}, false}, {[]int{10, 120}, false}} {
		got, e := batch.Allowed(b, x.recipe)
		equal(t, "error", e, api.OK)
		if got != x.want {
			t.Error(x.recipe, got)
		}
	}
}

func TestCost(t *testing.T) {
	got, e := batch.Cost(mix(), []int{81, 40})
	equal(t, "error", e, api.OK)
	equal(t, "cost", got, 241)
	got, e = batch.Cost(mix(), []int{0, 0})
	equal(t, "error", e, api.OK)
	equal(t, "cost of nothing", got, 0)
	b, recipe := greatest(1)
	got, e = batch.Cost(b, recipe)
	equal(t, "error", e, api.OK)
	equal(t, "the greatest cost", got, api.MaxMaterials*api.MaxPrice*api.MaxKilos)
}

func TestBest(t *testing.T) {
	recipe, cost, found, e := batch.Best(mix())
	equal(t, "error", e, api.OK)
	equal(t, "recipe", recipe, []int{80, 40})
	equal(t, "cost", cost, 240)
	equal(t, "found", found, true)
	b := mix()
	b.Wanted = 9000
	recipe, cost, found, e = batch.Best(b)
	if !onlyError([]any{recipe, cost, found, e}, api.OK) {
		t.Error(recipe, cost, found, e)
	}
}

// TestBestOfEqual: of several recipes that cost the same the least list is meant.
func TestBestOfEqual(t *testing.T) {
	b := api.Batch{Oxides: []string{"si"}, Shares: []api.Span{span(0, 1000)}, Redox: span(-1, 1), Wanted: 5}
	for _, name := range []string{"a", "b", "c"} {
		b.Materials = append(b.Materials, api.Material{Name: name, Price: 3, Most: 9, Step: 1, Content: []api.Span{span(1000, 1000)}})
	}
	recipe, cost, found, e := batch.Best(b)
	equal(t, "error", e, api.OK)
	equal(t, "found", found, true)
	equal(t, "cost", cost, 15)
	equal(t, "recipe", recipe, []int{0, 0, 5})
	for i := range b.Materials {
		b.Materials[i].Price = 0
	}
	recipe, _, _, _ = batch.Best(b)
	equal(t, "for nothing", recipe, []int{0, 0, 5})
}

// TestBestOfAll compares with all recipes one by one.
func TestBestOfAll(t *testing.T) {
	r := rand.New(rand.NewSource(31))
	count := map[bool]int{}
	for range 400 {
		b := some(r)
		var want []int
		for _, recipe := range allRecipes(b) {
			is, e := batch.Allowed(b, recipe)
			equal(t, "error", e, api.OK)
			equal(t, "allowed", is, true)
			passes, _ := batch.Passes(b, recipe)
			if passes && (want == nil || dot(prices(b), recipe) < dot(prices(b), want)) {
				want = recipe
			}
		}
		got, cost, found, e := batch.Best(b)
		if e != api.OK || found != (want != nil) || !slices.Equal(got, want) || found && cost != dot(prices(b), want) || !found && cost != 0 {
			t.Fatal(b, got, cost, found, e, want)
		}
		count[found]++
	}
	if count[true] < 50 || count[false] < 50 {
		t.Error("the batches are too much alike:", count)
	}
}

// TestChoices: MaxChoices recipes are searched, one more is not.
func TestChoices(t *testing.T) {
	b := mix()
	b.Materials[0].Most, b.Materials[0].Step = 999, 1 // 1000
	b.Materials[1].Most, b.Materials[1].Step = 99, 1  // 100
	_, _, found, e := batch.Best(b)
	equal(t, "error", e, api.OK)
	equal(t, "found", found, true)
	_, _, found, e = batch.Correct(b, []int{100, 0}, 1)
	equal(t, "error", e, api.OK)
	equal(t, "found", found, true)
	third := api.Material{Name: "lime", Most: 1, Step: 2, Content: []api.Span{{}, {}}}
	b.Materials = append(b.Materials, third) // one choice more each, as 2 is above Most
	_, _, found, e = batch.Best(b)
	equal(t, "error", e, api.OK)
	equal(t, "found", found, true)
	b.Materials[0].Most = 1000
	tooMany(t, b, []int{100, 0, 0})
	b.Materials[0].Most = 999
	b.Materials[2].Step = 1
	tooMany(t, b, []int{100, 0, 0})
	b, recipe := greatest(1)
	for i := range b.Materials {
		b.Materials[i].Least = 0
	}
	tooMany(t, b, recipe)
}

func tooMany(t *testing.T, b api.Batch, wrong []int) {
	t.Helper()
	recipe, cost, found, e := batch.Best(b)
	if !onlyError([]any{recipe, cost, found, e}, api.ErrScope) {
		t.Error(recipe, cost, found, e)
	}
	recipe, cost, found, e = batch.Correct(b, wrong, 1)
	if !onlyError([]any{recipe, cost, found, e}, api.ErrScope) {
		t.Error(recipe, cost, found, e)
	}
	for _, lots := range []int{0, -1, api.MaxCorrect + 1, math.MaxInt, math.MinInt} {
		recipe, cost, found, e = batch.Correct(b, wrong, lots)
		if !onlyError([]any{recipe, cost, found, e}, api.ErrArg) {
			t.Error(lots, recipe, cost, found, e)
		}
	}
}

func TestCorrect(t *testing.T) {
	// 100 of sand need from 43 of soda on, and twice the glass that is wanted
	b := mix()
	b.Materials[0].Step, b.Materials[1].Step = 10, 10
	recipe, cost, found, e := batch.Correct(b, []int{100, 0}, 1)
	equal(t, "error", e, api.OK)
	equal(t, "found", found, true)
	equal(t, "recipe", recipe, []int{60, 80})
	equal(t, "cost of one lot", cost, 380)
	recipe, cost, found, e = batch.Correct(b, []int{100, 0}, 2)
	equal(t, "error", e, api.OK)
	equal(t, "found", found, true)
	equal(t, "recipe of two lots", recipe, []int{70, 60})
	equal(t, "cost of one lot", cost, 310)
	recipe, cost, found, e = batch.Correct(b, []int{10000, 0}, 1)
	if !onlyError([]any{recipe, cost, found, e}, api.OK) {
		t.Error("nothing corrects it:", recipe, cost, found, e)
	}
}

// TestCorrectOfAll compares with all recipes one by one; what is wrong may be any recipe, allowed or not.
func TestCorrectOfAll(t *testing.T) {
	r := rand.New(rand.NewSource(32))
	count := map[bool]int{}
	for range 400 {
		b := some(r)
		wrong, lots := someRecipe(r, b), 1+r.Intn(5)
		wrong[0] += r.Intn(2) * r.Intn(30)
		lines, _ := batch.Lines(b)
		var want []int
		for _, recipe := range allRecipes(b) {
			keeps := true
			for _, l := range lines {
				keeps = keeps && dot(l.Factors, plus(wrong, lots, recipe)) <= (lots+1)*l.Bound
			}
			if keeps && (want == nil || dot(prices(b), recipe) < dot(prices(b), want)) {
				want = recipe
			}
		}
		got, cost, found, e := batch.Correct(b, wrong, lots)
		if e != api.OK || found != (want != nil) || !slices.Equal(got, want) || found && cost != dot(prices(b), want) || !found && cost != 0 {
			t.Fatal(b, wrong, lots, got, cost, found, e, want)
		}
		count[found]++
	}
	if count[true] < 50 || count[false] < 50 {
		t.Error("the batches are too much alike:", count)
	}
}

// TestCorrectGreat: lots of a great recipe are more kilograms than a recipe may have, and allowed all the same.
func TestCorrectGreat(t *testing.T) {
	b := mix()
	for i := range b.Materials {
		m := &b.Materials[i]
		m.Least, m.Most, m.Step = 4000*(2-i), 4000*(2-i), 1
	}
	recipe, cost, found, e := batch.Correct(b, []int{10000, 0}, api.MaxCorrect)
	equal(t, "error", e, api.OK)
	equal(t, "found", found, true)
	equal(t, "recipe", recipe, []int{8000, 4000})
	equal(t, "cost", cost, 24000)
}
