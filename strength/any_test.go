package strength_test

import (
	"math"
	"math/rand"
	"reflect"
	"slices"
	"testing"

	"cullet/api"
	"cullet/strength"
)

// wild numbers: those that lie about limits, and such as nobody would write.
var wildNumbers = []int{0, 1, -1, 2, 5, 24, 25, 300, 999, 1000, 1001, 2000, 2001, 4001, 5000, 10000, 10001, 20001, 100000, 100001, 10000001, 1000000000000001, math.MaxInt, math.MinInt, math.MaxInt - 1, 1 << 31, -(1 << 31), 1 << 62}

func wildNumber(r *rand.Rand) int    { return wildNumbers[r.Intn(len(wildNumbers))] }
func wildSpan(r *rand.Rand) api.Span { return span(wildNumber(r), wildNumber(r)) }

func wildRing(r *rand.Rand) api.Ring {
	return api.Ring{Radius: wildSpan(r), Height: wildSpan(r), Share: wildSpan(r), Factor: wildSpan(r), Hit: wildSpan(r)}
}

func wildKnee(r *rand.Rand) api.Knee { return api.Knee{Minute: wildNumber(r), Temp: wildNumber(r)} }

func wildCell(r *rand.Rand) api.Cell {
	return api.Cell{Phase: r.Intn(3) - 1, Tube: wildNumber(r), Weights: wildList(r, wildSpan)}
}

func wildList[T any](r *rand.Rand, of func(*rand.Rand) T) []T {
	var all []T
	for range []int{0, 1, 1, 2, 2, 3, 9, 25, 201}[r.Intn(9)] {
		all = append(all, of(r))
	}
	return all
}

// wild spoils one thing or more of good arguments.
func wild(r *rand.Rand) call {
	c := good()
	ring := &c.b.Rings[r.Intn(3)]
	changes := []func(){
		func() { c.b.Rings = wildList(r, wildRing) },
		func() { ring.Radius = wildSpan(r) },
		func() { ring.Height = wildSpan(r) },
		func() { ring.Share = wildSpan(r) },
		func() { ring.Factor = wildSpan(r) },
		func() { ring.Hit = wildSpan(r) },
		func() { c.b.Flaw = wildNumber(r) },
		func() { c.b.Tough = wildNumber(r) },
		func() { c.weights = wildSpan(r) },
		func() { c.thick = wildList(r, wildSpan) },
		func() { c.thick[r.Intn(3)] = wildSpan(r) },
		func() { c.l.Press = wildNumber(r) },
		func() { c.l.Force = wildNumber(r) },
		func() { c.l.Speed = wildNumber(r) },
		func() { c.l.Other = wildNumber(r) },
		func() { c.measured = wildList(r, wildNumber) },
		func() { c.measured[r.Intn(3)] = wildNumber(r) },
		func() { c.acc = wildNumber(r) },
		func() { c.loop.Gain = wildSpan(r) },
		func() { c.loop.Every = wildNumber(r) },
		func() { c.set = wildList(r, wildCell) },
		func() { c.set[0] = wildCell(r) },
		func() { c.most = wildNumber(r) },
		func() { c.batch.Materials[0].Content[0] = wildSpan(r) },
		func() { c.batch.Properties[r.Intn(2)].Coefs = wildList(r, wildNumber) },
		func() { c.recipe = wildList(r, wildNumber) },
		func() { c.property, c.annealing = wildNumber(r), wildNumber(r) },
		func() { c.degrees = wildNumber(r) },
		func() { c.lehr.Knees = wildList(r, wildKnee) },
		func() { c.lehr.Knees[r.Intn(4)] = wildKnee(r) },
		func() { c.lehr.Knees[r.Intn(4)].Temp = wildNumber(r) },
		func() { c.lehr.Factor = wildNumber(r) },
		func() { c.temps, c.temp = wildSpan(r), wildNumber(r) },
		func() { c.wide = wildNumber(r) },
		func() { c.below, c.soak, c.limit = wildNumber(r), wildNumber(r), wildNumber(r) },
		func() { c.limit = wildNumber(r) },
	}
	for _, i := range r.Perm(len(changes))[:1+r.Intn(2)] {
		func() {
			defer func() { recover() }() // a change may come behind one that left nothing to change
			changes[i]()
		}()
	}
	return c
}

func cloned(c call) call {
	c.b.Rings, c.thick, c.measured = slices.Clone(c.b.Rings), slices.Clone(c.thick), slices.Clone(c.measured)
	c.set = slices.Clone(c.set)
	for i := range c.set {
		c.set[i].Weights = slices.Clone(c.set[i].Weights)
	}
	c.recipe, c.lehr.Knees = slices.Clone(c.recipe), slices.Clone(c.lehr.Knees)
	c.batch.Oxides, c.batch.Shares = slices.Clone(c.batch.Oxides), slices.Clone(c.batch.Shares)
	c.batch.Materials, c.batch.Properties = slices.Clone(c.batch.Materials), slices.Clone(c.batch.Properties)
	for i := range c.batch.Materials {
		c.batch.Materials[i].Content = slices.Clone(c.batch.Materials[i].Content)
	}
	for i := range c.batch.Properties {
		c.batch.Properties[i].Coefs = slices.Clone(c.batch.Properties[i].Coefs)
	}
	return c
}

// TestAnything: whatever the arguments are, all functions return, do not change them, and return the same again (P0.1).
func TestAnything(t *testing.T) {
	r := newRand(81)
	for range 3000 {
		c := wild(r)
		before := cloned(c)
		first := c.answers()
		equal(t, "arguments behind", c, before)
		equal(t, "answers", c.answers(), first)
	}
	for _, x := range good().answers() {
		if e, ok := x.(api.Errno); ok {
			equal(t, "error of what is good", e, api.OK)
		}
	}
	for _, x := range (call{}).answers() {
		if e, ok := x.(api.Errno); ok {
			equal(t, "error of what is nothing", e, api.ErrArg)
		}
	}
}

// TestZeroWithError: with an error every other result is its zero value.
func TestZeroWithError(t *testing.T) {
	r := newRand(82)
	for range 3000 {
		var results []any
		for _, x := range wild(r).answers() {
			results = append(results, x)
			if e, ok := x.(api.Errno); ok {
				if e != api.OK && !onlyError(results, e) {
					t.Fatal(results)
				}
				results = nil
			}
		}
	}
}

// TestNilAndEmpty: a nil list and an empty one are the same.
func TestNilAndEmpty(t *testing.T) {
	for what, change := range map[string]func(c *call, empty bool){
		"rings":    func(c *call, empty bool) { c.b.Rings = none[api.Ring](empty) },
		"thick":    func(c *call, empty bool) { c.thick = none[api.Span](empty) },
		"measured": func(c *call, empty bool) { c.measured = none[int](empty) },
		"set":      func(c *call, empty bool) { c.set = none[api.Cell](empty) },
		"weights":  func(c *call, empty bool) { c.set[0].Weights = none[api.Span](empty) },
		"recipe":   func(c *call, empty bool) { c.recipe = none[int](empty) },
		"knees":    func(c *call, empty bool) { c.lehr.Knees = none[api.Knee](empty) },
		"oxides":   func(c *call, empty bool) { c.batch.Oxides = none[string](empty) },
	} {
		a, b := good(), good()
		change(&a, false)
		change(&b, true)
		equal(t, what, b.answers(), a.answers())
	}
}

func none[T any](empty bool) []T {
	if empty {
		return []T{}
	}
	return nil
}

// TestNewMemory: a result shares no memory with an argument, nor with another result.
func TestNewMemory(t *testing.T) {
	c := good()
	before := cloned(c)
	results := func() []any {
		thickness, _ := strength.Thickness(c.b, c.weights)
		stress, _ := strength.Stress(c.b, c.thick, c.l)
		needed, _ := strength.Needed(c.b, c.l)
		return []any{thickness, stress, needed}
	}
	want := results()
	for _, x := range results() {
		spoil(reflect.ValueOf(x))
	}
	equal(t, "arguments", c, before)
	equal(t, "results", results(), want)
}

// spoil sets all numbers of a list to 77, those behind its end among them.
func spoil(v reflect.Value) {
	v = v.Slice(0, v.Cap())
	for i := range v.Len() {
		if x := v.Index(i); x.Kind() == reflect.Int {
			x.SetInt(77)
		} else {
			x.Set(reflect.ValueOf(just(77)))
		}
	}
}
