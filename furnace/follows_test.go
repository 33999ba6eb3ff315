package furnace_test

import (
	"math/big"
	"math/rand"
	"slices"
	"testing"

	"cullet/api"
	"cullet/furnace"
)

func whole(n int) *big.Rat { return big.NewRat(int64(n), 1) }

// inside returns some number of a span, whole or not; an end of it now and then.
func inside(r *rand.Rand, s api.Span) *big.Rat {
	part := big.NewRat(int64(r.Intn(4)), 3)
	if r.Intn(2) == 0 {
		part = big.NewRat(int64(r.Intn(2)), 1)
	}
	x := part.Mul(part, whole(s.High-s.Low))
	if x.Cmp(whole(s.High-s.Low)) > 0 {
		x = whole(s.High - s.Low)
	}
	return x.Add(x, whole(s.Low))
}

func holds(s api.Span, x *big.Rat) bool {
	return whole(s.Low).Cmp(x) <= 0 && x.Cmp(whole(s.High)) <= 0
}

func allHold(spans []api.Span, values []*big.Rat) bool {
	for i, s := range spans {
		if !holds(s, values[i]) {
			return false
		}
	}
	return true
}

// really returns what really becomes of the values in a minute, if these are what is charged and gained.
func really(f api.Furnace, mode int, values []*big.Rat, charge *big.Rat, gains []*big.Rat) []*big.Rat {
	var next []*big.Rat
	for i, z := range f.Zones {
		sum := new(big.Rat).Mul(values[i], whole(z.Hold-outflow(f, mode, i)))
		for _, s := range f.Streams {
			if s.To == i {
				from := charge
				if s.From >= 0 {
					from = values[s.From]
				}
				sum.Add(sum, new(big.Rat).Mul(from, whole(s.Rates[mode])))
			}
		}
		sum.Quo(sum, whole(z.Hold))
		next = append(next, sum.Add(sum, gains[i]))
	}
	return next
}

// reallyPulled returns what is really pulled in a minute.
func reallyPulled(f api.Furnace, mode int, values []*big.Rat) *big.Rat {
	sum, pull := whole(0), 0
	for _, s := range f.Streams {
		if s.To == -1 {
			sum.Add(sum, new(big.Rat).Mul(values[s.From], whole(s.Rates[mode])))
			pull += s.Rates[mode]
		}
	}
	return sum.Quo(sum, whole(pull))
}

// someValues returns real values of a state; what is charged and gained is another one in each minute.
func someValues(r *rand.Rand, spans []api.Span) []*big.Rat {
	var all []*big.Rat
	for _, s := range spans {
		all = append(all, inside(r, s))
	}
	return all
}

func gainsOf(f api.Furnace, p api.Phase) []api.Span {
	if len(p.Gains) == 0 {
		return make([]api.Span, len(f.Zones))
	}
	return p.Gains
}

// TestTrue: whatever the values really are, they are in what is told, at each minute; so are the wear, the minute in which a lining is worn through, and the one in which a target is met.
func TestTrue(t *testing.T) {
	r := rand.New(rand.NewSource(101))
	minutes := 0
	for range 700 {
		f := some(r)
		state, plan, table := someSpans(r, len(f.Zones)), pulling(f, somePlan(r, f, 4)), someTable(r)
		zone, thick, target := r.Intn(len(f.Zones)), 1+r.Intn(200), someSpan(r)
		values := someValues(r, state)
		outs, _ := furnace.Outs(f, state, plan)
		var behind []api.Phase
		worn, through := 0, -1
		var met []bool
		for _, p := range plan {
			for range p.Minutes {
				x := reallyPulled(f, p.Mode, values)
				if !holds(outs[len(behind)], x) {
					t.Fatal(f, state, plan, outs, x)
				}
				met = append(met, holds(target, x))
				worn += realRate(table, values[zone])
				if through < 0 && worn >= thick {
					through = len(behind)
				}
				p.Minutes = 1
				behind = append(behind, p)
				values = really(f, p.Mode, values, inside(r, p.Charge), someValues(r, gainsOf(f, p)))
				told, e := furnace.Run(f, state, behind)
				equal(t, "error", e, api.OK)
				if !allHold(told, values) {
					t.Fatal(f, state, behind, told, values)
				}
			}
		}
		minutes += len(behind)
		wear, _ := furnace.Worn(f, state, plan, zone, table)
		if !holds(wear, whole(worn)) {
			t.Fatal(f, state, plan, table, wear, worn)
		}
		may, must, _ := furnace.Through(f, state, plan, zone, table, thick)
		if through >= 0 && (may < 0 || through < may) || must >= 0 && (through < 0 || through > must) {
			t.Fatal(f, state, plan, table, thick, may, must, through)
		}
		may, must, _ = furnace.First(f, state, plan, target)
		for i, is := range met {
			if is && (may < 0 || i < may) || !is && must >= 0 && i >= must {
				t.Fatal(f, state, plan, target, may, must, met)
			}
		}
	}
	if minutes < 1000 {
		t.Error("too few minutes:", minutes)
	}
}

// realRate is the wear in a minute at a value, whole or not.
func realRate(table []api.WearRow, value *big.Rat) int {
	rate := 0
	for _, row := range table {
		if whole(row.From).Cmp(value) <= 0 {
			rate = row.Rate
		}
	}
	return rate
}

// narrower returns a span inside of another one.
func narrower(r *rand.Rand, s api.Span) api.Span {
	low := s.Low + r.Intn(s.High-s.Low+1)
	return span(low, low+r.Intn(s.High-low+1))
}

func allNarrower(r *rand.Rand, spans []api.Span) []api.Span {
	var all []api.Span
	for _, s := range spans {
		all = append(all, narrower(r, s))
	}
	return all
}

// within tells whether each span lies in the other one.
func within(spans, wider []api.Span) bool {
	return slices.EqualFunc(spans, wider, func(s, w api.Span) bool { return w.Low <= s.Low && s.High <= w.High })
}

func TestNarrower(t *testing.T) {
	r := rand.New(rand.NewSource(102))
	for range 1500 {
		f := some(r)
		state, plan := someSpans(r, len(f.Zones)), pulling(f, somePlan(r, f, 8))
		var less []api.Phase
		for _, p := range plan {
			less = append(less, phase(p.Mode, p.Minutes, narrower(r, p.Charge), allNarrower(r, p.Gains)...))
		}
		known := allNarrower(r, state)
		wide, _ := furnace.Run(f, state, plan)
		narrow, e := furnace.Run(f, known, less)
		wideOuts, _ := furnace.Outs(f, state, plan)
		narrowOuts, g := furnace.Outs(f, known, less)
		if e != api.OK || g != api.OK || !within(narrow, wide) || !within(narrowOuts, wideOuts) {
			t.Fatal(f, state, plan, known, less)
		}
	}
}

// TestStays: what has one value everywhere keeps it.
func TestStays(t *testing.T) {
	r := rand.New(rand.NewSource(103))
	for range 1000 {
		f := some(r)
		value := someSpan(r)
		var state []api.Span
		for range f.Zones {
			state = append(state, value)
		}
		plan := pulling(f, somePlan(r, f, 20))
		for i := range plan {
			plan[i].Charge, plan[i].Gains = value, nil
		}
		got, e := furnace.Run(f, state, plan)
		equal(t, "error", e, api.OK)
		same(t, "state", got, state)
		outs, e := furnace.Outs(f, state, plan)
		equal(t, "error", e, api.OK)
		for _, s := range outs {
			equal(t, "pulled", s, value)
		}
	}
}

// TestCut: a plan that is cut into two, between phases or within one, gives the same behind both.
func TestCut(t *testing.T) {
	r := rand.New(rand.NewSource(104))
	for range 1000 {
		f := some(r)
		state, plan := someSpans(r, len(f.Zones)), pulling(f, somePlan(r, f, 8))
		if len(plan) == 0 {
			continue
		}
		i := r.Intn(len(plan))
		cut := r.Intn(plan[i].Minutes + 1)
		first, second := slices.Clone(plan[:i+1]), slices.Clone(plan[i:])
		first[i].Minutes = cut
		second[0].Minutes -= cut
		middle, _ := furnace.Run(f, state, first)
		got, _ := furnace.Run(f, middle, second)
		want, e := furnace.Run(f, state, plan)
		equal(t, "error", e, api.OK)
		same(t, "state", got, want)
		outs, _ := furnace.Outs(f, state, first)
		more, _ := furnace.Outs(f, middle, second)
		want, e = furnace.Outs(f, state, plan)
		equal(t, "error", e, api.OK)
		same(t, "outs", append(outs, more...), want)
	}
}
