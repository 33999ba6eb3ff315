package batch_test

import (
	"math"
	"math/rand"
	"reflect"
	"slices"
	"strings"
	"testing"

	"cullet/api"
	"cullet/batch"
)

// wild numbers, names and lengths: those that lie about limits, and such as nobody would write.
var wildNumbers = []int{0, 1, -1, 2, 5, 100, 999, 1000, 1001, 9999, 10000, 10001, -1000, -10000, -10001, math.MaxInt, math.MinInt, math.MaxInt - 1, 1 << 31, -(1 << 31), 1 << 62}

var wildNames = []string{"", "a", "b", "c9", "-", "A", "a b", "\n", "\x00", "\xff\xfe", "a\xc3", strings.Repeat("a", 16), strings.Repeat("a", 17)}

func wildNumber(r *rand.Rand) int { return wildNumbers[r.Intn(len(wildNumbers))] }
func wildSpan(r *rand.Rand) api.Span {
	return span(wildNumber(r), wildNumber(r))
}

func wildList[T any](r *rand.Rand, of func(*rand.Rand) T) []T {
	var all []T
	for range []int{0, 1, 1, 2, 2, 3, 12, 13}[r.Intn(8)] {
		all = append(all, of(r))
	}
	return all
}

// wild spoils one thing or more of a batch that may be.
func wild(r *rand.Rand) api.Batch {
	b := some(r)
	name := func(r *rand.Rand) string { return wildNames[r.Intn(len(wildNames))] }
	for range 1 + r.Intn(2) {
		m, p := &b.Materials[r.Intn(len(b.Materials))], &api.Property{}
		if len(b.Properties) > 0 {
			p = &b.Properties[r.Intn(len(b.Properties))]
		}
		changes := []func(){
			func() { b.Oxides = wildList(r, name) },
			func() { b.Oxides[r.Intn(len(b.Oxides))] = name(r) },
			func() { b.Shares = wildList(r, wildSpan) },
			func() { b.Redox = wildSpan(r) },
			func() { b.Wanted = wildNumber(r) },
			func() { m.Name = name(r) },
			func() { m.Price = wildNumber(r) },
			func() { m.Redox = wildNumber(r) },
			func() { m.Least, m.Most = wildNumber(r), wildNumber(r) },
			func() { m.Step = wildNumber(r) },
			func() { m.Content = wildList(r, wildSpan) },
			func() { p.Name = name(r) },
			func() { p.Coefs = wildList(r, wildNumber) },
			func() { p.Target = wildSpan(r) },
			func() { b.Materials = append(b.Materials, b.Materials...) },
			func() { b.Properties = append(b.Properties, b.Properties...) },
		}
		change := changes[r.Intn(len(changes))]
		if len(b.Oxides) > 0 {
			change()
		}
	}
	return b
}

// TestAnything: whatever the arguments are, all functions return, do not change them, and return the same again.
func TestAnything(t *testing.T) {
	r := rand.New(rand.NewSource(61))
	for range 600 {
		b := wild(r)
		recipe, n := wildList(r, wildNumber), wildNumber(r)
		if r.Intn(2) == 0 {
			b = some(r)
			recipe = someRecipe(r, b)
		}
		p := api.Proof{Scale: wildNumber(r), Weights: wildList(r, wildNumber)}
		copyB, copyRecipe, copyP := clone(b), slices.Clone(recipe), api.Proof{Scale: p.Scale, Weights: slices.Clone(p.Weights)}
		one := answers(b, recipe, n, p)
		equal(t, "batch behind", b, copyB)
		equal(t, "recipe behind", recipe, copyRecipe)
		equal(t, "proof behind", p, copyP)
		equal(t, "answers", answers(b, recipe, n, p), one)
	}
	equal(t, "nothing", onlyError(answers(api.Batch{}, nil, 0, api.Proof{}), api.ErrArg), true)
}

// TestAnyText: whatever a text is, Parse returns, with a batch that may be or an error.
func TestAnyText(t *testing.T) {
	r := rand.New(rand.NewSource(62))
	bytes := []byte(" \n-0123456789abcxyzA\x00\xff\r\t")
	for range 5000 {
		text := []byte(fullText)
		for range 1 + r.Intn(3) {
			i, c := r.Intn(len(text)), bytes[r.Intn(len(bytes))]
			switch r.Intn(3) {
			case 0:
				text[i] = c
			case 1:
				text = slices.Insert(text, i, c)
			default:
				text = slices.Delete(text, i, min(len(text), i+1+r.Intn(9)))
			}
		}
		b, line, e := batch.Parse(string(text))
		if e != api.OK {
			if !onlyError([]any{b, e}, e) || line < 0 || line > 0 && e != api.ErrForm {
				t.Fatalf("%q %v %d %v", text, b, line, e)
			}
			continue
		}
		equal(t, "line", line, 0)
		equal(t, "check", batch.Check(b), api.OK)
		again, e := batch.Print(b)
		equal(t, "error", e, api.OK)
		equal(t, "text", strings.TrimSuffix(again, "\n"), strings.TrimSuffix(string(text), "\n"))
	}
}

func clone(b api.Batch) api.Batch {
	b.Oxides, b.Shares = slices.Clone(b.Oxides), slices.Clone(b.Shares)
	b.Materials, b.Properties = slices.Clone(b.Materials), slices.Clone(b.Properties)
	for i := range b.Materials {
		b.Materials[i].Content = slices.Clone(b.Materials[i].Content)
	}
	for i := range b.Properties {
		b.Properties[i].Coefs = slices.Clone(b.Properties[i].Coefs)
	}
	return b
}

// TestNilAndEmpty: a list that is empty is as one that is not there.
func TestNilAndEmpty(t *testing.T) {
	b := mix()
	b.Properties = []api.Property{}
	p := api.Proof{Scale: 1, Weights: make([]int, 7)}
	equal(t, "no properties", answers(b, []int{80, 60}, 1, p), answers(mix(), []int{80, 60}, 1, p))
	c := api.Batch{Oxides: []string{}, Materials: []api.Material{}, Shares: []api.Span{}}
	equal(t, "nothing", answers(c, []int{}, 1, p), answers(api.Batch{}, nil, 1, p))
}

// TestNewMemory: who writes into a result changes neither an argument nor another result, nor other parts of the same one.
func TestNewMemory(t *testing.T) {
	b, recipe := full(), []int{80, 40}
	results := func() []any {
		lines, _ := batch.Lines(b)
		grams, _ := batch.Grams(b, recipe)
		shares, _ := batch.Glass(b, recipe)
		best, _, _, _ := batch.Best(b)
		right, _, _, _ := batch.Correct(b, recipe, 1)
		proof, _ := batch.Prove(b)
		parsed, _, _ := batch.Parse(fullText)
		return []any{lines, grams, shares, best, right, proof, parsed}
	}
	before := results()
	for _, x := range results() {
		spoil(reflect.ValueOf(x))
	}
	equal(t, "batch", b, full())
	equal(t, "recipe", recipe, []int{80, 40})
	equal(t, "results", results(), before)

	parsed, _, _ := batch.Parse(fullText)
	parsed.Materials[0].Content = append(parsed.Materials[0].Content, span(9, 9))
	parsed.Oxides = append(parsed.Oxides, "x")
	parsed.Shares = append(parsed.Shares, span(9, 9))
	parsed.Properties[0].Coefs = append(parsed.Properties[0].Coefs, 9)
	equal(t, "other parts", parsed.Materials[1], full().Materials[1])
	equal(t, "other parts", parsed.Properties[1], full().Properties[1])
}

// spoil sets all numbers to 77 that slices of a result lead to.
func spoil(v reflect.Value) {
	switch v.Kind() {
	case reflect.Slice:
		for i := range v.Len() {
			spoil(v.Index(i))
		}
	case reflect.Struct:
		for i := range v.NumField() {
			spoil(v.Field(i))
		}
	case reflect.Int:
		if v.CanSet() {
			v.SetInt(77)
		}
	}
}
