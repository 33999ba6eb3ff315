package batch_test

import (
	"math/rand"
	"testing"

	"cullet/api"
	"cullet/batch"
)

func TestLinesOfTheExample(t *testing.T) {
	got, e := batch.Lines(mix())
	equal(t, "error", e, api.OK)
	equal(t, "lines", got, []api.Line{
		{Factors: []int{-980, -570}, Bound: -100000},
		{Factors: []int{200 * 1000, -800 * 570}},
		{Factors: []int{-300 * 980, 700 * 580}},
		{Factors: []int{-300 * 980, 700 * 580}},
		{Factors: []int{200 * 1000, -800 * 570}},
		{Factors: []int{-9999 * 980, -9999 * 570}},
		{Factors: []int{-9999 * 980, -9999 * 570}},
	})
}

// TestLinesOfProperties: a coefficient may lie on either side of a target, and targets on either side of 0.
func TestLinesOfProperties(t *testing.T) {
	b := full()
	b.Redox = span(-20, -10)
	got, e := batch.Lines(b)
	equal(t, "error", e, api.OK)
	equal(t, "lines", got[5:], []api.Line{
		{Factors: []int{-3 * 980, -28 * 570}}, // melt: 17 and -8, at most 20
		{Factors: []int{-12 * 980, 13 * 580}}, // at least 5
		{Factors: []int{-20000 * 980, 0}},     // bright-2: -10000 and 10000, at most 10000
		{Factors: []int{0, -20000 * 570}},     // at least -10000
		{Factors: []int{-3000000 + 10*1000, 7000000 + 10*580}},
		{Factors: []int{-20*980 + 3000000, -20*570 - 7000000}},
	})
}

// TestLinesAsWritten compares with the chapter's sums, term by term.
func TestLinesAsWritten(t *testing.T) {
	r := rand.New(rand.NewSource(11))
	for range 300 {
		b := some(r)
		got, e := batch.Lines(b)
		equal(t, "error", e, api.OK)
		equal(t, "lines", got, linesAsWritten(b))
	}
}

func linesAsWritten(b api.Batch) []api.Line {
	line := func(bound int, factor func(m api.Material) int) api.Line {
		return api.Line{Factors: kilos(b, factor), Bound: bound}
	}
	lows := func(m api.Material) (l, h int) {
		for _, s := range m.Content {
			l, h = l+s.Low, h+s.High
		}
		return l, h
	}
	all := []api.Line{line(-1000*b.Wanted, func(m api.Material) int { l, _ := lows(m); return -l })}
	form := func(c []int, target api.Span) {
		all = append(all, line(0, func(m api.Material) int {
			n := 0
			for o, s := range m.Content {
				n += max((c[o]-target.High)*s.Low, (c[o]-target.High)*s.High)
			}
			return n
		}), line(0, func(m api.Material) int {
			n := 0
			for o, s := range m.Content {
				n += max((target.Low-c[o])*s.Low, (target.Low-c[o])*s.High)
			}
			return n
		}))
	}
	for i, s := range b.Shares {
		c := make([]int, len(b.Oxides))
		c[i] = 1000
		form(c, s)
	}
	for _, p := range b.Properties {
		form(p.Coefs, p.Target)
	}
	return append(all, line(0, func(m api.Material) int {
		l, h := lows(m)
		return 1000000*m.Redox - min(b.Redox.High*l, b.Redox.High*h)
	}), line(0, func(m api.Material) int {
		l, h := lows(m)
		return max(b.Redox.Low*l, b.Redox.Low*h) - 1000000*m.Redox
	}))
}

func TestPassesExamples(t *testing.T) {
	for _, x := range []struct {
		recipe []int
		want   bool
	}{{[]int{80, 60}, false}, {[]int{100, 60}, true}, {[]int{80, 40}, true}, {[]int{60, 40}, false}, {[]int{0, 0}, false}, {[]int{10000, 6000}, true}, {[]int{81, 41}, true}} {
		got, e := batch.Passes(mix(), x.recipe)
		equal(t, "error", e, api.OK)
		equal(t, "passes", got, x.want)
	}
	b := mix()
	b.Wanted = 101 // 80 and 40 kilograms make 101200 grams at least
	is, _ := batch.Passes(b, []int{80, 40})
	equal(t, "as much as is wanted", is, true)
	b.Wanted = 102
	is, _ = batch.Passes(b, []int{80, 40})
	equal(t, "less than is wanted", is, false)
}

// TestPassesAllGlasses: a recipe passes just if all its glasses are as wanted, and just if it keeps all lines.
func TestPassesAllGlasses(t *testing.T) {
	r := rand.New(rand.NewSource(12))
	count := map[bool]int{}
	for range 4000 {
		b := some(r)
		recipe := someRecipe(r, b)
		want := true
		for _, g := range corners(b, recipe) {
			want = want && isWanted(b, recipe, g)
		}
		got, e := batch.Passes(b, recipe)
		if e != api.OK || got != want {
			t.Fatal(b, recipe, got, want, e)
		}
		lines, _ := batch.Lines(b)
		keeps := true
		for _, l := range lines {
			keeps = keeps && dot(l.Factors, recipe) <= l.Bound
		}
		equal(t, "keeps all lines", keeps, want)
		count[want]++
	}
	if count[true] < 100 || count[false] < 100 {
		t.Error("the recipes are too much alike:", count)
	}
}

// isWanted tells whether a glass is as the batch wants it, without dividing.
func isWanted(b api.Batch, recipe, grams []int) bool {
	w := weight(grams)
	if w < 1000*b.Wanted || w <= 0 {
		return false
	}
	in := func(n int, s api.Span) bool { return s.Low*w <= n && n <= s.High*w }
	for i, s := range b.Shares {
		if !in(1000*grams[i], s) {
			return false
		}
	}
	for _, p := range b.Properties {
		if !in(dot(p.Coefs, grams), p.Target) {
			return false
		}
	}
	return in(1000000*dot(recipe, kilos(b, func(m api.Material) int { return m.Redox })), b.Redox)
}

// TestSumOfPassing: two recipes that pass do so together.
func TestSumOfPassing(t *testing.T) {
	r := rand.New(rand.NewSource(13))
	seen := 0
	for range 3000 {
		b := some(r)
		x, y := someRecipe(r, b), someRecipe(r, b)
		one, _ := batch.Passes(b, x)
		other, _ := batch.Passes(b, y)
		if both, e := batch.Passes(b, plus(x, 1, y)); one && other {
			seen++
			if e != api.OK || !both {
				t.Fatal(b, x, y, e)
			}
		}
	}
	if seen < 50 {
		t.Error("only", seen, "pairs pass")
	}
}
