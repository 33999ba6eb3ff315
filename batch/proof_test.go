package batch_test

import (
	"math"
	"math/rand"
	"slices"
	"testing"

	"cullet/api"
	"cullet/batch"
)

func TestBound(t *testing.T) {
	b := mix()
	b.Materials[0].Least, b.Materials[1].Least = 5, 3
	for _, x := range []struct {
		name  string
		proof api.Proof
		bound int
		none  bool
	}{
		{"no weights", api.Proof{Scale: 1, Weights: make([]int, 7)}, 17, false},
		{"no weights, another scale", api.Proof{Scale: api.MaxScale, Weights: make([]int, 7)}, 17, false},
		// 1000 - 980 * 1 for sand, 4000 - 570 * 1 for soda, 100000 of Bound: 110390 of 1000
		{"glass alone", api.Proof{Scale: 1000, Weights: []int{1, 0, 0, 0, 0, 0, 0}}, 111, false},
		// -960 for sand, of which there are 185 at most, 2860 for soda: 30980 of 1000
		{"too much weight", api.Proof{Scale: 1000, Weights: []int{2, 0, 0, 0, 0, 0, 0}}, 31, false},
		{"nothing at all", api.Proof{Weights: make([]int, 7)}, 0, false},
		{"something is possible", api.Proof{Weights: []int{1, 0, 0, 0, 0, 0, 0}}, 0, false},
	} {
		bound, none, e := batch.Bound(b, x.proof)
		equal(t, x.name, e, api.OK)
		equal(t, x.name, bound, x.bound)
		equal(t, x.name, none, x.none)
	}
	b.Wanted = 300 // 185 of sand and 83 of soda make less
	bound, none, e := batch.Bound(b, api.Proof{Weights: []int{1, 0, 0, 0, 0, 0, 0}})
	equal(t, "error", e, api.OK)
	equal(t, "bound", bound, 0)
	equal(t, "none", none, true)
	bound, none, e = batch.Bound(b, api.Proof{Scale: 1, Weights: []int{1, 0, 0, 0, 0, 0, 0}})
	equal(t, "error", e, api.OK)
	equal(t, "bound", bound, 300000-185*979-83*566)
	equal(t, "none", none, false)
}

// TestBoundExample: without weights nothing is proved but that nothing costs less than nothing.
func TestBoundExample(t *testing.T) {
	bound, none, e := batch.Bound(mix(), api.Proof{Scale: 1, Weights: make([]int, 7)})
	equal(t, "error", e, api.OK)
	equal(t, "bound", bound, 0)
	equal(t, "none", none, false)
}

func TestBoundErrors(t *testing.T) {
	for _, p := range []api.Proof{
		{Scale: -1, Weights: make([]int, 7)},
		{Scale: api.MaxScale + 1, Weights: make([]int, 7)},
		{Scale: math.MinInt, Weights: make([]int, 7)},
		{Scale: 1},
		{Weights: make([]int, 6)},
		{Weights: make([]int, 8)},
		{Weights: []int{0, 0, 0, 0, 0, 0, -1}},
		{Weights: []int{0, api.MaxWeight + 1, 0, 0, 0, 0, 0}},
		{Weights: []int{math.MaxInt, 0, 0, 0, 0, 0, 0}},
	} {
		bound, none, e := batch.Bound(mix(), p)
		if !onlyError([]any{bound, none, e}, api.ErrArg) {
			t.Error(p, bound, none, e)
		}
	}
	_, _, e := batch.Bound(mix(), api.Proof{Scale: api.MaxScale, Weights: slices.Repeat([]int{api.MaxWeight}, 7)})
	equal(t, "all at its limit", e, api.OK)
}

// TestBoundOfAll compares with the least value of all recipes, one by one; what is proved then holds for the best one.
func TestBoundOfAll(t *testing.T) {
	r := rand.New(rand.NewSource(41))
	none := 0
	for range 800 {
		b := some(r)
		lines, _ := batch.Lines(b)
		p := api.Proof{Weights: make([]int, len(lines))}
		if r.Intn(3) == 0 {
			p.Scale = r.Intn(api.MaxScale + 1)
		}
		for range r.Intn(4) {
			p.Weights[r.Intn(len(lines))] = min(api.MaxWeight, r.Intn(1<<r.Intn(11)))
		}
		least := math.MaxInt
		for _, recipe := range allRecipes(b) {
			v := p.Scale * dot(prices(b), recipe)
			for i, l := range lines {
				v += p.Weights[i] * (dot(l.Factors, recipe) - l.Bound)
			}
			least = min(least, v)
		}
		bound, is, e := batch.Bound(b, p)
		equal(t, "error", e, api.OK)
		if p.Scale == 0 {
			equal(t, "bound", bound, 0)
			equal(t, "none", is, least > 0)
		} else {
			equal(t, "bound", bound, ceil(least, p.Scale))
			equal(t, "none", is, false)
		}
		_, cost, found, _ := batch.Best(b)
		if found && (is || cost < bound) {
			t.Fatal(b, p, bound, is, cost)
		}
		if is {
			none++
		}
	}
	if none < 20 {
		t.Error("only", none, "proofs that there is no recipe")
	}
}

// TestBoundOfMany: a bound does not ask how many recipes there are, and its numbers do not run over.
func TestBoundOfMany(t *testing.T) {
	b, recipe := greatest(1)
	for i := range b.Materials {
		b.Materials[i].Least = 0
	}
	lines, _ := batch.Lines(b)
	p := api.Proof{Scale: api.MaxScale, Weights: slices.Repeat([]int{api.MaxWeight}, len(lines))}
	want := 0 // what each kilogram is worth is the same for all, and above 0
	for i, l := range lines {
		want -= p.Weights[i] * l.Bound
	}
	bound, _, e := batch.Bound(b, p)
	equal(t, "error", e, api.OK)
	equal(t, "bound", bound, want/p.Scale)
	b, recipe = greatest(1)
	bound, _, e = batch.Bound(b, p)
	for i, l := range lines {
		want += p.Weights[i] * dot(l.Factors, recipe)
	}
	equal(t, "error", e, api.OK)
	equal(t, "bound", bound, ceil(want+p.Scale*dot(prices(b), recipe), p.Scale))
}

func TestProve(t *testing.T) {
	p, e := batch.Prove(mix())
	equal(t, "error", e, api.OK)
	bound, none, e := batch.Bound(mix(), p)
	equal(t, "error", e, api.OK)
	equal(t, "none", none, false)
	if bound < 200 || bound > 240 {
		t.Error(p, bound)
	}
	b := mix()
	b.Wanted = 9000
	p, e = batch.Prove(b)
	equal(t, "error", e, api.OK)
	_, none, e = batch.Bound(b, p)
	equal(t, "error", e, api.OK)
	equal(t, "none", none, true)
	// with so little sand there is too little glass, or too much of it is soda's: neither line proves that alone
	b = mix()
	b.Materials[0].Most = 20
	b.Wanted = 50
	p, e = batch.Prove(b)
	equal(t, "error", e, api.OK)
	_, none, e = batch.Bound(b, p)
	equal(t, "error", e, api.OK)
	equal(t, "none", none, true)
}

// TestProveAll: whatever Prove returns, Bound accepts it; it is at least what the Leasts cost, and never above the best one.
func TestProveAll(t *testing.T) {
	r := rand.New(rand.NewSource(42))
	proved := 0
	for range 200 {
		b := some(r)
		p, e := batch.Prove(b)
		equal(t, "error", e, api.OK)
		bound, none, e := batch.Bound(b, p)
		equal(t, "error", e, api.OK)
		_, cost, found, _ := batch.Best(b)
		if p.Scale != 0 && bound < dot(prices(b), leasts(b)) || found && (none || bound > cost) {
			t.Fatal(b, p, bound, none, cost, found)
		}
		if none || bound > dot(prices(b), leasts(b)) {
			proved++
		}
	}
	if proved < 50 {
		t.Error("only", proved, "proofs of something")
	}
	b, recipe := greatest(1)
	p, e := batch.Prove(b)
	equal(t, "error", e, api.OK)
	bound, none, e := batch.Bound(b, p)
	equal(t, "error", e, api.OK)
	if !none && (p.Scale == 0 || bound < dot(prices(b), recipe)) {
		t.Error(p, bound, none)
	}
}
