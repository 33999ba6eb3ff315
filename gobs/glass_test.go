package gobs_test

import (
	"math/rand"
	"testing"

	"cullet/api"
	"cullet/batch"
	"cullet/furnace"
	"cullet/gobs"
)

// heat is a furnace of as many zones as spans, in which nothing flows.
func heat(zones int) api.Furnace {
	f := api.Furnace{Modes: []string{"day"}}
	for i := range zones {
		f.Zones = append(f.Zones, api.Zone{Name: string(rune('a' + i)), Hold: 10})
	}
	return f
}

func checkEven(t *testing.T, what string, f api.Furnace, state []api.Span, plan []api.Phase, most, mayBe, mustBe int) {
	t.Helper()
	may, must, e := gobs.Even(f, state, plan, most)
	equal(t, what, e, api.OK)
	equal(t, what+": may", may, mayBe)
	equal(t, what+": must", must, mustBe)
}

// TestEvenState: how far the values of a single state may be apart, and surely are not (P3.6).
func TestEvenState(t *testing.T) {
	for what, x := range map[string]struct {
		state     []api.Span
		may, must int // the least most for which the state may be, surely is even
	}{
		"one zone":      {[]api.Span{span(0, 1000)}, 0, 0},
		"equal":         {[]api.Span{just(5), just(5)}, 0, 0},
		"apart":         {[]api.Span{just(5), just(12)}, 7, 7},
		"other way":     {[]api.Span{just(12), just(5)}, 7, 7},
		"spans":         {[]api.Span{span(0, 10), span(15, 30)}, 5, 30},
		"overlap":       {[]api.Span{span(0, 10), span(5, 30)}, 0, 30},
		"one within":    {[]api.Span{span(0, 10), just(5)}, 0, 5},
		"one within, 2": {[]api.Span{span(0, 10), span(4, 7)}, 0, 7},
		"three":         {[]api.Span{span(0, 2), span(5, 9), span(20, 21)}, 18, 21},
		"three, within": {[]api.Span{span(0, 100), just(40), just(50)}, 10, 60},
		"far":           {[]api.Span{just(-api.MaxState / 2), just(api.MaxState / 2)}, api.MaxState, api.MaxState},
	} {
		f := heat(len(x.state))
		for _, most := range []int{0, 1, x.may - 1, x.may, x.must - 1, x.must, api.MaxState} {
			if most < 0 {
				continue
			}
			may, must := 0, 0
			if most < x.may {
				may = -1
			}
			if most < x.must {
				must = -1
			}
			checkEven(t, what, f, x.state, nil, most, may, must)
		}
	}
	checkEven(t, "farther than that", heat(2), []api.Span{just(-api.MaxState), just(api.MaxState)}, nil, api.MaxState, -1, -1)
}

// TestEvenPlan: states are counted from the beginning of a plan to its end (P3.6).
func TestEvenPlan(t *testing.T) {
	plan := func(gains ...int) []api.Phase {
		var all []api.Phase
		for _, g := range gains {
			all = append(all, phase(0, 1, just(0), just(g), just(0)))
		}
		return all
	}
	f := heat(2)
	apart := []api.Span{just(10), just(0)}
	checkEven(t, "no minutes", f, apart, nil, 3, -1, -1)
	checkEven(t, "no minutes, even", f, apart, nil, 10, 0, 0)
	checkEven(t, "at the end", f, apart, plan(-3, -3, -3), 3, 3, 3)
	checkEven(t, "not yet", f, apart, plan(-3, -3), 3, -1, -1)
	checkEven(t, "from the first minute on", f, apart, plan(-8, 1, -2), 3, 1, 1)
	checkEven(t, "lost", f, apart, plan(-8, 1, 1), 3, 1, -1)
	checkEven(t, "lost and found", f, apart, plan(-8, 1, 1, -1), 3, 1, 4)
	checkEven(t, "lost at the beginning", f, apart, plan(1, -1), 10, 0, 2)
	checkEven(t, "always", f, apart, plan(0, 0, -1), 10, 0, 0)
	wide := []api.Span{span(9, 11), span(0, 2)}
	checkEven(t, "may before it must", f, wide, plan(-2, -2, -2, -2), 3, 2, 4)
	one := pot()
	checkEven(t, "one zone", one, []api.Span{span(0, 100)}, []api.Phase{phase(0, 5, span(7, 700))}, 0, 0, 0)
	phases := []api.Phase{phase(0, 2, just(0), just(-3), just(0)), phase(0, 0, just(0)), phase(0, 1, just(0), just(-3), just(0)), phase(0, 2, just(0))}
	checkEven(t, "phases of several minutes, and of none", f, apart, phases, 1, 3, 3)
}

// evenOf is Even as the chapter says it.
func evenOf(states [][]api.Span, most int) (may, must int) {
	may, must = -1, -1
	for n, s := range states {
		surely, maybe := true, true
		for i, a := range s {
			for j, b := range s {
				maybe = maybe && a.Low-b.High <= most
				surely = surely && (i == j || a.High-b.Low <= most)
			}
		}
		if maybe && may < 0 {
			may = n
		}
		if !surely {
			must = -1
		} else if must < 0 {
			must = n
		}
	}
	return may, must
}

func someSpan(r *rand.Rand) api.Span {
	n := r.Intn(101) - 50
	return span(n, n+r.Intn(2)*r.Intn(30))
}

func somePlan(r *rand.Rand, modes []int) []api.Phase {
	var plan []api.Phase
	for range r.Intn(4) {
		p := phase(modes[r.Intn(len(modes))], r.Intn(5), someSpan(r))
		if r.Intn(2) == 0 {
			p.Gains = []api.Span{span(0, r.Intn(3)), just(r.Intn(5) - 2)}
		}
		plan = append(plan, p)
	}
	return plan
}

// TestEvenModel: of all plans, Even tells the same as the states of furnace.Run (P3.6).
func TestEvenModel(t *testing.T) {
	r := rand.New(rand.NewSource(51))
	kinds := map[bool]int{}
	for range 500 {
		f := melter()
		state := []api.Span{someSpan(r), someSpan(r)}
		plan := somePlan(r, []int{0, 1, 2})
		most := r.Intn(80)
		may, must := evenOf(history(f, state, plan), most)
		checkEven(t, "plan", f, state, plan, most, may, must)
		kinds[may < must]++
	}
	equal(t, "both", kinds[true] > 50 && kinds[false] > 50, true)
}

func checkDrift(t *testing.T, what string, f api.Furnace, state []api.Span, plan []api.Phase, each, cuts, want int) {
	t.Helper()
	got, e := gobs.Drift(f, state, plan, each, cuts)
	equal(t, what, e, api.OK)
	equal(t, what, got, want)
}

// TestDrift: the greatest change of what is pulled, from one minute to the next one (P3.6).
func TestDrift(t *testing.T) {
	f := melter()
	zero := []api.Span{just(0), just(0)}
	charge := func(minutes int) []api.Phase { return []api.Phase{phase(0, minutes, just(1000))} }
	checkDrift(t, "no minutes", f, zero, nil, 5, 1, 0)
	checkDrift(t, "one minute", f, []api.Span{span(0, 9), span(0, 9)}, charge(1), 5, 1, 0)
	checkDrift(t, "0, 0", f, zero, charge(2), 5, 1, 0)
	checkDrift(t, "0, 0, 40", f, zero, charge(3), 5, 1, 200)
	checkDrift(t, "0, 0, 40, 96", f, zero, charge(4), 5, 1, 280)
	checkDrift(t, "a part", f, zero, charge(4), 5, 3, 94)
	checkDrift(t, "just so", f, zero, charge(4), 5, 4, 70)
	checkDrift(t, "a little", f, zero, charge(4), 1, api.MaxGob, 1)
	checkDrift(t, "no weight", f, zero, charge(4), 0, 1, 0)
	checkDrift(t, "most weight", f, zero, charge(4), api.MaxGain, 1, 56000)
	hot := []api.Span{just(1000), just(1000)}
	checkDrift(t, "falling", f, hot, []api.Phase{phase(0, 4, just(0))}, 5, 1, 280)
	checkDrift(t, "of two phases", f, zero, []api.Phase{phase(0, 2, just(1000)), phase(0, 0, just(0)), phase(2, 1, just(0))}, 5, 1, 200)
	one := pot()
	checkDrift(t, "a span that stays", one, []api.Span{span(0, 10)}, []api.Phase{phase(0, 2, span(0, 10))}, 1, 1, 10)
	checkDrift(t, "a span that rises", one, []api.Span{span(0, 10)}, []api.Phase{phase(0, 2, span(20, 30))}, 1, 1, 20)
	checkDrift(t, "a span that falls", one, []api.Span{span(20, 30)}, []api.Phase{phase(0, 2, span(0, 10))}, 1, 1, 20)
	checkDrift(t, "a span that narrows", one, []api.Span{span(-99, 101)}, []api.Phase{phase(0, 2, just(0))}, 1, 1, 151)
}

// TestDriftModel: of all plans, Drift tells the same as furnace.Outs (P3.6).
func TestDriftModel(t *testing.T) {
	r := rand.New(rand.NewSource(52))
	for range 500 {
		f := melter()
		state := []api.Span{someSpan(r), someSpan(r)}
		plan := somePlan(r, []int{0, 2})
		each, cuts := r.Intn(50), 1+r.Intn(50)
		outs, e := furnace.Outs(f, state, plan)
		equal(t, "outs", e, api.OK)
		want := 0
		for i := range outs {
			if i == 0 {
				continue
			}
			a, b := outs[i-1], outs[i]
			for want*cuts < each*max(a.High-b.Low, b.High-a.Low) {
				want++
			}
		}
		checkDrift(t, "plan", f, state, plan, each, cuts, want)
	}
}

// wrongRuns spoil what a furnace runs, in the order of the errors. Those that stand behind come behind.
func wrongRuns() []struct {
	e     api.Errno
	spoil func(*call)
} {
	return []struct {
		e     api.Errno
		spoil func(*call)
	}{
		{api.ErrArg, func(c *call) { c.f.Zones[1].Hold = 0 }},
		{api.ErrSum, func(c *call) { c.f.Streams = c.f.Streams[:3] }},
		{api.ErrArg, func(c *call) { c.state = c.state[:1] }},
		{api.ErrArg, func(c *call) { c.state[0] = span(1, 0) }},
		{api.ErrNone, func(c *call) { c.plan[0].Mode = 3 }},
		{api.ErrArg, func(c *call) { c.plan[0].Minutes = -1 }},
		{api.ErrArg, func(c *call) { c.plan[0].Minutes = api.MaxMinutes + 1 }},
		{api.ErrArg, func(c *call) { c.plan[0].Charge.High = api.MaxState + 1 }},
		{api.ErrNone, func(c *call) { c.plan[1].Mode = -1 }},
		{api.ErrArg, func(c *call) { c.plan[1].Gains = c.plan[1].Gains[:1] }},
		{api.ErrArg, func(c *call) { c.plan[1].Gains[1] = span(1, 0) }},
		{api.ErrLimit, func(c *call) { c.plan[0].Minutes, c.plan[1].Minutes = 1, api.MaxMinutes }},
		{api.ErrArg, func(c *call) { c.most, c.each = -1, -1 }},
		{api.ErrLimit, func(c *call) { c.plan[1].Gains[0] = just(api.MaxState) }},
	}
}

// TestRunErrors: the errors of furnace.Run but the last one, those of numbers, then the last one (P3.6).
func TestRunErrors(t *testing.T) {
	wrong := wrongRuns()
	for i, first := range wrong {
		for _, second := range wrong[i:] {
			c := good()
			second.spoil(&c)
			first.spoil(&c)
			may, must, e := gobs.Even(c.f, c.state, c.plan, c.most)
			if !onlyError([]any{may, must, e}, first.e) {
				t.Error("Even", i, may, must, e)
			}
			drift, e := gobs.Drift(c.f, c.state, c.plan, c.each, c.cuts)
			if !onlyError([]any{drift, e}, first.e) {
				t.Error("Drift", i, drift, e)
			}
		}
	}
	long := good()
	long.plan = make([]api.Phase, api.MaxPhases+1)
	long.plan[0].Mode = 9
	_, _, e := gobs.Even(long.f, long.state, long.plan, -1)
	equal(t, "phases", e, api.ErrLimit)
	_, _, e = gobs.Even(long.f, long.state, make([]api.Phase, api.MaxPhases), 0)
	equal(t, "most phases", e, api.OK)
	_, _, e = gobs.Even(pot(), []api.Span{just(0)}, []api.Phase{phase(0, api.MaxMinutes, just(5))}, 0)
	equal(t, "most minutes", e, api.OK)
}

// TestNumberErrors: how even, how much, and how many (P3.6).
func TestNumberErrors(t *testing.T) {
	c := good()
	for most, want := range map[int]api.Errno{-1: api.ErrArg, 0: api.OK, api.MaxState: api.OK, api.MaxState + 1: api.ErrArg} {
		_, _, e := gobs.Even(c.f, c.state, c.plan, most)
		equal(t, "most", e, want)
	}
	for each, want := range map[int]api.Errno{-1: api.ErrArg, 0: api.OK, api.MaxGain: api.OK, api.MaxGain + 1: api.ErrArg} {
		_, e := gobs.Drift(c.f, c.state, c.plan, each, c.cuts)
		equal(t, "each", e, want)
	}
	for cuts, want := range map[int]api.Errno{-1: api.ErrArg, 0: api.ErrArg, 1: api.OK, api.MaxGob: api.OK, api.MaxGob + 1: api.ErrArg} {
		_, e := gobs.Drift(c.f, c.state, c.plan, c.each, cuts)
		equal(t, "cuts", e, want)
	}
	// What leaves its bounds comes ahead of what is not pulled; Even does not ask for that.
	c.plan[0].Mode = 1
	_, e := gobs.Drift(c.f, c.state, c.plan, c.each, c.cuts)
	equal(t, "nothing is pulled", e, api.ErrState)
	_, e = gobs.Drift(c.f, c.state, c.plan, c.each, 0)
	equal(t, "nothing is pulled, cuts", e, api.ErrArg)
	_, _, e = gobs.Even(c.f, c.state, c.plan, c.most)
	equal(t, "nothing is pulled: Even", e, api.OK)
	c.plan[1].Gains[0] = just(api.MaxState)
	_, e = gobs.Drift(c.f, c.state, c.plan, c.each, c.cuts)
	equal(t, "nothing is pulled, out of bounds", e, api.ErrLimit)
}

// weightErrors are weights of gobs, with their errors.
var weightErrors = []struct {
	weights api.Span
	e       api.Errno
}{
	{span(1, api.MaxGob), api.OK},
	{just(api.MaxGob), api.OK},
	{span(0, 10), api.ErrArg},
	{span(-5, -1), api.ErrArg},
	{span(11, 10), api.ErrArg},
	{span(1, api.MaxGob+1), api.ErrArg},
}

// TestCuts: as many gobs as the pull gives, of the lightest and of the heaviest ones (P3.7).
func TestCuts(t *testing.T) {
	f := melter()
	for _, x := range []struct {
		mode    int
		weights api.Span
		want    api.Span
	}{
		{0, span(1000, 1010), span(99, 100)},
		{0, just(1000), just(100)},
		{0, just(1010), span(99, 100)},
		{0, just(999), span(100, 101)},
		{1, span(1000, 1010), just(0)},
		{2, span(1000, 1010), span(326, 330)},
		{2, span(1, api.MaxGob), span(3, 330000)},
	} {
		got, e := gobs.Cuts(f, x.mode, x.weights)
		equal(t, "cuts", e, api.OK)
		equal(t, "cuts", got, x.want)
	}
	for _, x := range weightErrors {
		got, e := gobs.Cuts(f, 0, x.weights)
		equal(t, "weights", e, x.e)
		equal(t, "weights", got == api.Span{}, e != api.OK)
	}
	for _, mode := range []int{-1, 3} {
		got, e := gobs.Cuts(f, mode, span(0, -1))
		equal(t, "mode", onlyError([]any{got, e}, api.ErrNone), true)
	}
	f.Zones[0].Hold = 1
	got, e := gobs.Cuts(f, 9, span(0, -1))
	equal(t, "furnace", onlyError([]any{got, e}, api.ErrScope), true)
}

// TestCount: as many gobs as the glass gives, of the lightest and of the heaviest ones (P3.7).
func TestCount(t *testing.T) {
	b := mix()
	for _, x := range []struct {
		recipe  []int
		weights api.Span
		want    api.Span
	}{
		{[]int{80, 60}, span(1000, 1010), span(1114, 1148)},
		{[]int{0, 0}, span(1000, 1010), just(0)},
		{[]int{20, 0}, just(1000), span(196, 200)},
		{[]int{20, 0}, just(1001), span(195, 200)},
		{[]int{20, 0}, just(999), span(196, 201)},
		{[]int{200, 100}, span(1, api.MaxGob), span(25, 2580000)},
	} {
		got, e := gobs.Count(b, x.recipe, x.weights)
		equal(t, "count", e, api.OK)
		equal(t, "count", got, x.want)
	}
	for _, x := range weightErrors {
		got, e := gobs.Count(b, []int{80, 60}, x.weights)
		equal(t, "weights", e, x.e)
		equal(t, "weights", got == api.Span{}, e != api.OK)
	}
	for _, recipe := range [][]int{nil, {80}, {-1, 0}, {80, 60, 0}} {
		_, want := batch.Grams(b, recipe)
		got, e := gobs.Count(b, recipe, span(0, -1))
		equal(t, "recipe", want != api.OK, true)
		equal(t, "recipe", onlyError([]any{got, e}, want), true)
	}
	b.Materials[0].Name = "Sand"
	got, e := gobs.Count(b, nil, span(0, -1))
	equal(t, "batch", onlyError([]any{got, e}, api.ErrName), true)
}
