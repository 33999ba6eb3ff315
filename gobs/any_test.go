package gobs_test

import (
	"math"
	"math/rand"
	"reflect"
	"slices"
	"testing"

	"cullet/api"
	"cullet/gobs"
)

// wild numbers: those that lie about limits, and such as nobody would write.
var wildNumbers = []int{0, 1, -1, 2, 5, 10, 20, 21, 200, 995, 1000, 1001, 1005, 100000, -100000, 100001, -100001, 200000, 200001, 1000000000, 1000000001, math.MaxInt, math.MinInt, math.MaxInt - 1, 1 << 31, -(1 << 31), 1 << 62}

func wildNumber(r *rand.Rand) int    { return wildNumbers[r.Intn(len(wildNumbers))] }
func wildSpan(r *rand.Rand) api.Span { return span(wildNumber(r), wildNumber(r)) }

func wildPhase(r *rand.Rand) api.Phase {
	return phase(r.Intn(5)-1, wildNumber(r), wildSpan(r), wildList(r, wildSpan)...)
}

func wildCell(r *rand.Rand) api.Cell {
	return cell(r.Intn(3)-1, wildNumber(r), wildList(r, wildSpan)...)
}

func wildList[T any](r *rand.Rand, of func(*rand.Rand) T) []T {
	var all []T
	for range []int{0, 1, 1, 2, 2, 3, 9, 25, 201}[r.Intn(9)] {
		all = append(all, of(r))
	}
	return all
}

// wild spoils one thing or more of good arguments.
func wild(r *rand.Rand) call {
	c := good()
	changes := []func(){
		func() { c.l.Band = wildSpan(r) },
		func() { c.l.Gain = wildSpan(r) },
		func() { c.l.Tube = wildSpan(r) },
		func() { c.l.Tube.High = wildNumber(r) },
		func() { c.l.Drift = wildNumber(r) },
		func() { c.l.Error = wildNumber(r) },
		func() { c.l.Every = wildNumber(r) },
		func() { c.s = api.Scanner{Acc: wildNumber(r), Drift: wildNumber(r), Every: wildNumber(r)} },
		func() { c.s.Every = wildNumber(r) },
		func() { c.set = wildList(r, wildCell) },
		func() { c.set[r.Intn(2)] = wildCell(r) },
		func() { c.set[r.Intn(2)].Weights = wildList(r, wildSpan) },
		func() { c.set[r.Intn(2)].Weights[0] = wildSpan(r) },
		func() { c.set[r.Intn(2)].Phase = wildNumber(r) },
		func() { c.all = wildList(r, wildCell) },
		func() { c.all[r.Intn(2)].Weights = wildList(r, wildSpan) },
		func() { c.gobs = wildNumber(r) },
		func() { c.readings = wildList(r, wildNumber) },
		func() { c.readings[r.Intn(3)] = wildNumber(r) },
		func() { c.limits = wildSpan(r) },
		func() { c.f.Zones[r.Intn(2)].Hold = wildNumber(r) },
		func() { c.f.Streams[r.Intn(4)].Rates = wildList(r, wildNumber) },
		func() { c.state = wildList(r, wildSpan) },
		func() { c.state[r.Intn(2)] = wildSpan(r) },
		func() { c.plan = wildList(r, wildPhase) },
		func() { c.plan[r.Intn(2)] = wildPhase(r) },
		func() { c.plan[r.Intn(2)].Minutes = wildNumber(r) },
		func() { c.most, c.each, c.cuts = wildNumber(r), wildNumber(r), wildNumber(r) },
		func() { c.cuts = wildNumber(r) },
		func() { c.mode, c.weights = wildNumber(r), wildSpan(r) },
		func() { c.weights = wildSpan(r) },
		func() { c.recipe = wildList(r, wildNumber) },
		func() { c.b.Materials[0].Content[0] = wildSpan(r) },
	}
	for _, i := range r.Perm(len(changes))[:1+r.Intn(2)] {
		func() {
			defer func() { recover() }() // a change may come behind one that left nothing to change
			changes[i]()
		}()
	}
	return c
}

func clonedCells(set []api.Cell) []api.Cell {
	set = slices.Clone(set)
	for i := range set {
		set[i].Weights = slices.Clone(set[i].Weights)
	}
	return set
}

func cloned(c call) call {
	c.set, c.all = clonedCells(c.set), clonedCells(c.all)
	c.readings, c.recipe = slices.Clone(c.readings), slices.Clone(c.recipe)
	c.f.Zones, c.f.Modes, c.f.Streams = slices.Clone(c.f.Zones), slices.Clone(c.f.Modes), slices.Clone(c.f.Streams)
	for i := range c.f.Streams {
		c.f.Streams[i].Rates = slices.Clone(c.f.Streams[i].Rates)
	}
	c.state, c.plan = slices.Clone(c.state), slices.Clone(c.plan)
	for i := range c.plan {
		c.plan[i].Gains = slices.Clone(c.plan[i].Gains)
	}
	c.b.Materials = slices.Clone(c.b.Materials)
	for i := range c.b.Materials {
		c.b.Materials[i].Content = slices.Clone(c.b.Materials[i].Content)
	}
	return c
}

// TestAnything: whatever the arguments are, all functions return, do not change them, and return the same again.
func TestAnything(t *testing.T) {
	r := rand.New(rand.NewSource(81))
	for range 2000 {
		c := wild(r)
		before := cloned(c)
		one := c.answers()
		equal(t, "arguments behind", c, before)
		equal(t, "answers", c.answers(), one)
	}
	for _, x := range good().answers() {
		if e, ok := x.(api.Errno); ok {
			equal(t, "error of what is good", e, api.OK)
		}
	}
}

// TestZeroWithError: with an error every other result is its zero value.
func TestZeroWithError(t *testing.T) {
	r := rand.New(rand.NewSource(82))
	for range 2000 {
		c := wild(r)
		var results []any
		for _, x := range c.answers() {
			if _, ok := x.(bool); ok && len(results) == 1 && reflect.TypeOf(results[0]) == reflect.TypeOf(api.Span{}) {
				results = nil // Hull has no error
				continue
			}
			results = append(results, x)
			if e, ok := x.(api.Errno); ok {
				if e != api.OK && !onlyError(results, e) {
					t.Fatal(results)
				}
				results = nil
			}
		}
	}
}

// TestNilAndEmpty: a nil list and an empty one are the same.
func TestNilAndEmpty(t *testing.T) {
	none, empty := good(), good()
	none.set, none.all, none.readings, none.plan, none.state, none.recipe = nil, nil, nil, nil, nil, nil
	empty.set, empty.all, empty.readings = set(), set(), []int{}
	empty.plan, empty.state, empty.recipe = []api.Phase{}, []api.Span{}, []int{}
	equal(t, "all", empty.answers(), none.answers())
	none, empty = good(), good()
	none.plan, empty.plan = nil, []api.Phase{}
	none.set[0].Weights, empty.set[0].Weights = nil, []api.Span{}
	equal(t, "plan and weights", empty.answers(), none.answers())
	gains := good()
	gains.plan[0].Gains = []api.Span{}
	equal(t, "gains", gains.answers(), good().answers())
}

// TestNewMemory: a result shares no memory with an argument, nor with another result.
func TestNewMemory(t *testing.T) {
	c := good()
	before := cloned(c)
	spoil := func(all []api.Cell) {
		for i := range all {
			for j := range all[i].Weights[:cap(all[i].Weights)] {
				all[i].Weights[:cap(all[i].Weights)][j] = span(7, 7)
			}
			all[i] = cell(9, 9)
		}
	}
	l := c.l
	l.Drift, l.Gain = 0, just(0)
	for range 2 {
		reach, _ := gobs.Reach(c.l, c.set, 0)
		same(t, "Reach", reach, before.set)
		spoil(reach)
		seen, _ := gobs.Seen(c.l, c.set, nil)
		same(t, "Seen", seen, before.set)
		spoil(seen)
		next, _ := gobs.Next(l, c.set)
		spoil(next)
		all, at, _ := gobs.Ever(l, c.set, c.limits)
		equal(t, "Ever", at, -1)
		spoil(all)
		equal(t, "arguments", c, before)
	}
	all, _, _ := gobs.Ever(l, c.set, c.limits)
	for i, a := range all {
		for _, b := range all[:i] {
			kept := clonedCells(set(b))[0]
			spoil(set(a))
			equal(t, "another cell", b, kept)
		}
	}
}
