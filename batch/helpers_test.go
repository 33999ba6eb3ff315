package batch_test

import (
	"math/rand"
	"reflect"
	"strconv"
	"testing"

	"cullet/api"
	"cullet/batch"
)

func span(low, high int) api.Span { return api.Span{Low: low, High: high} }

// mix is the batch of the chapter's examples.
func mix() api.Batch {
	return api.Batch{
		Oxides: []string{"si", "na"},
		Materials: []api.Material{
			{Name: "sand", Price: 1, Most: 200, Step: 20, Content: []api.Span{span(980, 1000), span(0, 0)}},
			{Name: "soda", Price: 4, Most: 100, Step: 20, Content: []api.Span{span(0, 0), span(570, 580)}},
		},
		Shares: []api.Span{span(700, 800), span(200, 300)},
		Redox:  span(-9999, 9999),
		Wanted: 100,
	}
}

// full is a batch that has everything, twice.
func full() api.Batch {
	b := mix()
	b.Materials[0].Redox, b.Materials[1].Redox = -3, 7
	b.Properties = []api.Property{
		{Name: "melt", Coefs: []int{17, -8}, Target: span(5, 20)},
		{Name: "bright-2", Coefs: []int{-10000, 10000}, Target: span(-10000, 10000)},
	}
	return b
}

// some returns a small batch that may be. What it wants lies around some recipe, more or less, so that about as many recipes pass as do not.
func some(r *rand.Rand) api.Batch {
	oxides, materials, properties := 1+r.Intn(4), 1+r.Intn(3), r.Intn(3)
	b := api.Batch{Redox: span(-api.MaxCoef, api.MaxCoef), Wanted: 1 + r.Intn(40)}
	for i := range oxides {
		b.Oxides = append(b.Oxides, "o"+strconv.Itoa(i))
		b.Shares = append(b.Shares, span(0, 1000))
	}
	for i := range materials {
		m := api.Material{Name: "m" + strconv.Itoa(i), Price: r.Intn(9), Redox: r.Intn(9) - 4, Least: r.Intn(9), Step: 1 + r.Intn(12)}
		m.Most = m.Least + r.Intn(60)
		for range oxides {
			n := r.Intn(1 + 1000/oxides)
			m.Content = append(m.Content, span(n, min(1000, n+r.Intn(30))))
		}
		if r.Intn(3) == 0 {
			m.Content[r.Intn(oxides)] = span(0, r.Intn(2)*1000)
		}
		b.Materials = append(b.Materials, m)
	}
	for i := range properties {
		p := api.Property{Name: "p" + strconv.Itoa(i), Target: span(-1000, 1000)}
		for range oxides {
			p.Coefs = append(p.Coefs, r.Intn(2001)-1000)
		}
		b.Properties = append(b.Properties, p)
	}
	aim(r, &b)
	if e := batch.Check(b); e != api.OK {
		panic(e)
	}
	return b
}

// aim sets the targets of a batch around what one of its recipes has, each of them a bit too narrow now and then.
func aim(r *rand.Rand, b *api.Batch) {
	recipe := someRecipe(r, *b)
	least, most := sums(*b, recipe)
	if weight(least) == 0 || r.Intn(5) == 0 {
		return
	}
	around := func(s api.Span, end int) api.Span {
		low := min(end, max(-end, s.Low+2-r.Intn(1+end/3)))
		return span(low, min(end, max(low, s.High-2+r.Intn(1+end/3))))
	}
	for i := range b.Shares {
		s := around(span(1000*least[i]/weight(least), 1000*most[i]/weight(least)), 1000)
		b.Shares[i] = span(max(0, s.Low), max(0, s.High))
	}
	for i, p := range b.Properties {
		n := dot(p.Coefs, least) / weight(least)
		b.Properties[i].Target = around(span(n, n), 1000)
	}
	n := 1000000 * dot(recipe, kilos(*b, func(m api.Material) int { return m.Redox })) / weight(least)
	b.Redox = around(span(n, n), api.MaxCoef)
	b.Wanted = max(1, weight(least)/1000-r.Intn(9))
}

// someRecipe returns a recipe, mostly one that is allowed.
func someRecipe(r *rand.Rand, b api.Batch) []int {
	var recipe []int
	for _, m := range b.Materials {
		n := m.Least + r.Intn((m.Most-m.Least)/m.Step+1)*m.Step
		recipe = append(recipe, max(0, n+r.Intn(5)/4*(r.Intn(7)-3)))
	}
	return recipe
}

// allRecipes returns all lists of kilograms from the Leasts to the Mosts in steps, the least one first.
func allRecipes(b api.Batch) [][]int {
	all := [][]int{nil}
	for _, m := range b.Materials {
		var longer [][]int
		for _, r := range all {
			for n := m.Least; n <= m.Most; n += m.Step {
				longer = append(longer, append(append([]int{}, r...), n))
			}
		}
		all = longer
	}
	return all
}

// sums returns the least and the greatest grams of each oxide as the chapter says it.
func sums(b api.Batch, recipe []int) (least, most []int) {
	for o := range b.Oxides {
		l, h := 0, 0
		for i, m := range b.Materials {
			l += recipe[i] * m.Content[o].Low
			h += recipe[i] * m.Content[o].High
		}
		least, most = append(least, l), append(most, h)
	}
	return least, most
}

// corners returns all glasses whose oxides each have their least or their greatest grams: whatever is a quotient of sums is least and greatest at one of them.
func corners(b api.Batch, recipe []int) [][]int {
	least, most := sums(b, recipe)
	var all [][]int
	for bits := range 1 << len(least) {
		g := append([]int{}, least...)
		for i := range g {
			if bits>>i&1 == 1 {
				g[i] = most[i]
			}
		}
		all = append(all, g)
	}
	return all
}

func dot(a, b []int) int {
	n := 0
	for i := range a {
		n += a[i] * b[i]
	}
	return n
}

func plus(a []int, times int, b []int) []int {
	var sum []int
	for i := range a {
		sum = append(sum, a[i]+times*b[i])
	}
	return sum
}

func weight(grams []int) int {
	n := 0
	for _, g := range grams {
		n += g
	}
	return n
}

// floor and ceil round a / b for b above 0.
func floor(a, b int) int { return (a - ((a%b)+b)%b) / b }
func ceil(a, b int) int  { return -floor(-a, b) }

func kilos(b api.Batch, of func(api.Material) int) []int {
	var all []int
	for _, m := range b.Materials {
		all = append(all, of(m))
	}
	return all
}

func prices(b api.Batch) []int { return kilos(b, func(m api.Material) int { return m.Price }) }
func leasts(b api.Batch) []int { return kilos(b, func(m api.Material) int { return m.Least }) }

// answers are the results of all functions of a batch, with a recipe, a number and a proof.
func answers(b api.Batch, recipe []int, n int, p api.Proof) []any {
	var all []any
	add := func(results ...any) { all = append(all, results...) }
	add(batch.Check(b))
	two := func(x any, e api.Errno) { add(x, e) }
	lines, e := batch.Lines(b)
	two(lines, e)
	grams, e := batch.Grams(b, recipe)
	two(grams, e)
	shares, e := batch.Glass(b, recipe)
	two(shares, e)
	value, e := batch.Value(b, recipe, n)
	two(value, e)
	redox, e := batch.Redox(b, recipe)
	two(redox, e)
	passes, e := batch.Passes(b, recipe)
	two(passes, e)
	allowed, e := batch.Allowed(b, recipe)
	two(allowed, e)
	cost, e := batch.Cost(b, recipe)
	two(cost, e)
	best, bestCost, found, e := batch.Best(b)
	add(best, bestCost, found, e)
	right, rightCost, found, e := batch.Correct(b, recipe, n)
	add(right, rightCost, found, e)
	bound, none, e := batch.Bound(b, p)
	add(bound, none, e)
	proof, e := batch.Prove(b)
	two(proof, e)
	text, e := batch.Print(b)
	two(text, e)
	return all
}

// onlyError tells whether each result is a zero value, but for the errors, which are all e.
func onlyError(results []any, e api.Errno) bool {
	for _, x := range results {
		if got, ok := x.(api.Errno); ok && got != e || !ok && !reflect.ValueOf(x).IsZero() {
			return false
		}
	}
	return true
}

func equal(t *testing.T, what string, got, want any) {
	t.Helper()
	if !reflect.DeepEqual(got, want) {
		t.Errorf("%s: got %v, want %v", what, got, want)
	}
}
