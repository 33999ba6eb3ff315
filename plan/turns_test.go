package plan_test

import (
	"math"
	"slices"
	"testing"

	"cullet/api"
	"cullet/batch"
	"cullet/forming"
	"cullet/furnace"
	"cullet/plan"
)

// TestTurns compares Turns with the changes one by one.
func TestTurns(t *testing.T) {
	c := good()
	want := make([][]int, 3)
	for from := range want {
		for to := range want {
			_, must, e := furnace.Change(c.f, 0, 60, c.b, c.recipes[from], c.recipes[to], 0, c.targets[to])
			equal(t, "error", e, api.OK)
			if from == to {
				must = 0
			}
			want[from] = append(want[from], must)
		}
	}
	got, e := plan.Turns(c.f, 0, 60, c.b, c.recipes, 0, c.targets)
	rows(t, "turns", got, e, want)
	// the first recipe has 771 to 779 thousandths, the second one 737 to 746, the third one 808 to 815: into the first target, which ends at 770, it does not come surely
	if want[1][0] != -1 || want[2][0] != -1 || want[0][1] <= 0 || want[2][1] <= want[0][1] || want[0][2] <= 0 {
		t.Error(want)
	}
}

// TestTurnsFew: what is not asked for is not looked at.
func TestTurnsFew(t *testing.T) {
	got, e := plan.Turns(two(), -5, -5, sand(1), nil, -5, nil)
	rows(t, "no recipe", got, e, nil)
	got, e = plan.Turns(two(), -5, -5, sand(1), [][]int{{-5}}, -5, []api.Span{span(5, -5)})
	rows(t, "one recipe", got, e, [][]int{{0}})
	same := slices.Repeat([][]int{{80, 40}}, api.MaxColours)
	got, e = plan.Turns(two(), 0, 9, sand(1), same, 1, slices.Repeat([]api.Span{span(0, 999)}, api.MaxColours))
	rows(t, "the most recipes", got, e, slices.Repeat([][]int{{0, 0, 0, 0, 0, 0}}, api.MaxColours))
	got, e = plan.Turns(two(), 0, 9, sand(1), same[:2], 1, []api.Span{span(0, 999), span(0, 1)})
	rows(t, "never", got, e, [][]int{{0, -1}, {0, 0}})
}

func TestTurnsErrors(t *testing.T) {
	var all []wrong
	add := func(e api.Errno, spoil func(*call)) { all = append(all, wrong{e, spoil}) }
	add(api.ErrArg, func(c *call) { c.f.Zones = nil })
	add(api.ErrName, func(c *call) { c.f.Modes[0] = "Day" })
	add(api.ErrSum, func(c *call) { c.f.Streams[0].Rates[0] = 11 })
	add(api.ErrArg, func(c *call) { c.b.Oxides = nil })
	add(api.ErrName, func(c *call) { c.b.Oxides[1] = "Na" })
	add(api.ErrArg, func(c *call) { c.b.Wanted = 0 })
	add(api.ErrLimit, func(c *call) { c.recipes = make([][]int, api.MaxColours+1) })
	add(api.ErrArg, func(c *call) { c.targets = nil })
	add(api.ErrArg, func(c *call) { c.targets = c.targets[:min(len(c.targets), 2)] })
	add(api.ErrArg, func(c *call) { c.targets = make([]api.Span, 4) })
	// those of the change from the first recipe to the second one
	for _, n := range []int{-1, 2, math.MinInt, math.MaxInt} {
		add(api.ErrNone, func(c *call) { c.mode = n })
	}
	for _, n := range []int{-1, api.MaxMinutes + 1, math.MinInt, math.MaxInt} {
		add(api.ErrArg, func(c *call) { c.minutes = n })
	}
	add(api.ErrArg, func(c *call) { c.recipes[0] = []int{80} })
	add(api.ErrState, func(c *call) { c.recipes[0] = []int{0, 0} })
	add(api.ErrArg, func(c *call) { c.recipes[1] = []int{80, -1} })
	add(api.ErrState, func(c *call) { c.recipes[1] = []int{0, 0} })
	for _, n := range []int{-1, 2, math.MinInt, math.MaxInt} {
		add(api.ErrNone, func(c *call) { c.oxide = n })
	}
	add(api.ErrArg, func(c *call) { c.targets[1] = span(2, 1) })
	add(api.ErrState, func(c *call) { c.mode = 1 })
	// of that to the third one
	add(api.ErrArg, func(c *call) { c.recipes[2] = nil })
	add(api.ErrState, func(c *call) { c.recipes[2] = []int{0, 0} })
	add(api.ErrArg, func(c *call) { c.targets[2] = span(0, math.MaxInt) })
	// of that from the second one to the first one
	add(api.ErrArg, func(c *call) { c.targets[0] = span(math.MinInt, 0) })
	inOrder(t, "Turns", all, call.turns)
}

// overs checks what Over says.
func overs(t *testing.T, what string, m api.Machine, l []api.Switch, section, stop, run, at, ticks int, found bool) {
	t.Helper()
	got, is, e := plan.Over(m, l, section, stop, run, at)
	fine(t, what, got, e, ticks)
	equal(t, what+": found", is, found)
}

func TestOver(t *testing.T) {
	// in the section 0 an arm is at home from 80 to 100, from 180 to 200 and so on; a section switches again after 100 ticks; behind a run two cycles are rejected
	overs(t, "at once", arms(), nil, 0, 1, 0, 0, 100+200, true)
	overs(t, "later", arms(), nil, 0, 1, 0, 1, 179+200, true)
	overs(t, "at the end", arms(), nil, 0, 1, 0, 90, 100+200, true)
	overs(t, "in the section 1", arms(), nil, 1, 1, 0, 51, 79+100+200, true)
	stopped := []api.Switch{{Section: 0, Time: 85, Mode: 1}}
	overs(t, "stopped", arms(), stopped, 0, 1, 0, 0, 185+100+200, true)
	overs(t, "stopped before", arms(), stopped, 0, 1, 0, 200, 100+200, true)
	overs(t, "another section", arms(), stopped, 1, 1, 0, 0, 130+100+200, true)
	// to stop is a mode like any other one: what its ware would be rejected for is not asked
	overs(t, "the other way round", arms(), nil, 0, 0, 1, 0, 100+700, true)
	overs(t, "out of it", arms(), nil, 0, 2, 0, 0, 20+100+200, true)
	overs(t, "never stops", arms(), stopped, 0, 2, 0, 0, 0, false)
	overs(t, "never runs", arms(), nil, 0, 1, 2, 0, 0, false)
	overs(t, "at the last time", arms(), nil, 0, 0, 0, api.MaxClock-100, 100+200, true)
	overs(t, "no time to run", arms(), nil, 0, 0, 0, api.MaxClock-99, 0, false)
	overs(t, "no time to run, from a stop", arms(), nil, 0, 1, 0, api.MaxClock, 0, false)
	overs(t, "no time to stop", arms(), nil, 1, 1, 0, api.MaxClock, 0, false)
}

// same are so many switches of the section 0 to the mode that it runs.
func same(count int) []api.Switch {
	var l []api.Switch
	for i := range count {
		l = append(l, api.Switch{Time: 100 * i})
	}
	return l
}

func TestOverLimit(t *testing.T) {
	overs(t, "room for both", arms(), same(api.MaxSwitches-2), 0, 1, 0, 0, 12600+100+200, true)
	for _, count := range []int{api.MaxSwitches - 1, api.MaxSwitches, api.MaxSwitches + 1} {
		c := good()
		c.l = same(count)
		if got := c.over(); !onlyError(got, api.ErrLimit) {
			t.Error(count, got)
		}
		// without a stop nothing is asked behind it
		c.l = append([]api.Switch{{Section: 1, Time: 30, Mode: 1}}, same(count)[1:]...)
		c.section, c.stop = 1, 2
		if got := c.over(); count < api.MaxSwitches && !onlyError(got, api.OK) || count >= api.MaxSwitches && !onlyError(got, api.ErrLimit) {
			t.Error(count, got)
		}
	}
}

func TestOverErrors(t *testing.T) {
	var all []wrong
	add := func(e api.Errno, spoil func(*call)) { all = append(all, wrong{e, spoil}) }
	add(api.ErrArg, func(c *call) { c.m.Cycle = 0 })
	add(api.ErrName, func(c *call) { c.m.Mechs[0].Name = "Arm" })
	add(api.ErrState, func(c *call) { c.m.Spread = 51 })
	add(api.ErrNone, func(c *call) { c.l = []api.Switch{{Section: 2, Time: -1}} })
	add(api.ErrArg, func(c *call) { c.l = []api.Switch{{Section: 0, Time: -1}} })
	add(api.ErrClash, func(c *call) { c.l = []api.Switch{{Section: 0, Time: 50, Mode: 1}} })
	for _, n := range []int{-1, 2, math.MinInt, math.MaxInt} {
		add(api.ErrNone, func(c *call) { c.section = n })
	}
	for _, n := range []int{-1, 3, math.MinInt, math.MaxInt} {
		add(api.ErrNone, func(c *call) { c.stop = n })
	}
	for _, n := range []int{-1, api.MaxClock + 1, math.MinInt, math.MaxInt} {
		add(api.ErrArg, func(c *call) { c.t = n })
	}
	for _, n := range []int{-1, 3, math.MinInt, math.MaxInt} {
		add(api.ErrNone, func(c *call) { c.run = n })
	}
	inOrder(t, "Over", all, call.over)
	overs(t, "never stops", arms(), []api.Switch{{Time: 80, Mode: 1}}, 0, 2, 77, 0, 0, false)
	// a machine that is not safe, with a log that is not allowed
	c := good()
	c.m.Spread, c.l = 51, same(api.MaxSwitches+1)
	if got := c.over(); !onlyError(got, api.ErrState) {
		t.Error(got)
	}
}

// soonest is the first time at which Drive allows a switch behind a log, time by time.
func soonest(m api.Machine, l []api.Switch, x api.Switch, from int) (at int, found bool) {
	for x.Time = from; x.Time < from+1000; x.Time++ {
		if _, e := forming.Drive(m, append(slices.Clone(l), x)); e == api.OK {
			return x.Time, true
		}
	}
	return 0, false
}

// TestOverAlike compares Over with what Drive allows, time by time.
func TestOverAlike(t *testing.T) {
	r := newRand(88)
	founds := map[bool]int{}
	for range 400 {
		m := arms()
		m.Modes[0].Reject = r.Intn(4)
		var l []api.Switch
		for range r.Intn(4) {
			x := api.Switch{Section: r.Intn(2), Mode: r.Intn(3)}
			if at, is := soonest(m, l, x, r.Intn(500)); is {
				l = append(l, api.Switch{Section: x.Section, Time: at, Mode: x.Mode})
			}
		}
		section, stop, run, at := r.Intn(2), r.Intn(3), r.Intn(3), r.Intn(600)
		want := 0
		stops, found := soonest(m, l, api.Switch{Section: section, Mode: stop}, at)
		if found {
			var runs int
			runs, found = soonest(m, append(slices.Clone(l), api.Switch{Section: section, Time: stops, Mode: stop}), api.Switch{Section: section, Mode: run}, stops)
			if found {
				want = runs - at + 100*m.Modes[run].Reject
			}
		}
		founds[found]++
		overs(t, "alike", m, l, section, stop, run, at, want, found)
	}
	if founds[true] < 100 || founds[false] < 100 {
		t.Error(founds)
	}
}

// melts checks what Melt says.
func melts(t *testing.T, what string, s api.Season, p [][]int, glasses []api.Batch, want int) {
	t.Helper()
	got, e := plan.Melt(s, p, glasses)
	fine(t, what, got, e, want)
}

func TestMelt(t *testing.T) {
	// 80 of sand and 40 of soda bring 101200 grams at least
	melts(t, "pub", pub(), [][]int{{pint, quart}}, []api.Batch{sand(1)}, 240*(297+356))
	melts(t, "town", town(), townPlan(), []api.Batch{sand(1), sand(2)}, 240*(297+445)+320*(178+297+173))
	melts(t, "town, the other way round", town(), townPlan(), []api.Batch{sand(2), sand(1)}, 320*(297+445)+240*(178+297+173))
	melts(t, "nothing", api.Season{Days: 2}, nil, nil, 0)
	melts(t, "a colour of nothing", api.Season{Days: 2, Colours: never(1)}, nil, []api.Batch{sand(1)}, 0)
	s := free(1, 1)
	s.Ovens[0] = oven(0, api.MaxHold)
	s.Articles[0].Weight = 10000
	for kilos, charges := range map[int]int{1: 1, 101: 1, 102: 2, 505: 5, 506: 5, 507: 6, 999999: 9882} {
		s.Makers[0].Rates[0] = kilos
		melts(t, "charges", s, [][]int{{0}}, []api.Batch{sand(1)}, 240*charges)
	}
	melts(t, "nothing is pulled", s, [][]int{{-1}}, []api.Batch{sand(1)}, 0)
	melts(t, "less than a kilogram is pulled", s, [][]int{{1}}, []api.Batch{sand(1)}, 0)
}

// TestMeltRounding: a gram more than so many charges bring asks for one more.
func TestMeltRounding(t *testing.T) {
	b := api.Batch{Oxides: []string{"si"}, Shares: []api.Span{span(0, 1000)}, Redox: span(0, 0), Wanted: 1}
	b.Materials = []api.Material{{Name: "ash", Price: 1, Least: 13, Most: 13, Step: 1, Content: []api.Span{span(77, 77)}}}
	s := free(1, 1)
	s.Ovens[0], s.Articles[0].Weight = oven(0, api.MaxHold), 10000
	for kilos, charges := range map[int]int{1000: 1000, 1001: 1000, 1002: 1001, 2000: 1999, 2002: 2000} {
		s.Makers[0].Rates[0] = kilos
		melts(t, "charges of 1001 grams", s, [][]int{{0}}, []api.Batch{b}, 13*charges)
	}
}

// TestMeltMost: the greatest costs are reckoned with.
func TestMeltMost(t *testing.T) {
	s := free(api.MaxDays, 3)
	b := api.Batch{Oxides: []string{"si"}, Shares: []api.Span{span(0, 1000)}, Redox: span(-9999, 9999), Wanted: 10}
	for i := range api.MaxMaterials {
		b.Materials = append(b.Materials, api.Material{
			Name: string(rune('a' + i)), Price: api.MaxPrice, Least: api.MaxKilos, Most: api.MaxKilos, Step: 1, Content: []api.Span{span(0, 0)},
		})
	}
	b.Materials[0].Content[0] = span(1, 1)
	var p [][]int
	for i := range 3 {
		s.Ovens[i] = oven(0, api.MaxHold)
		s.Makers[i].Rates[0] = api.MaxRate
		p = append(p, slices.Repeat([]int{0}, api.MaxDays))
	}
	s.Articles[0].Weight = 10000
	melts(t, "much", s, p, []api.Batch{b}, 12*10000*10000*3*api.MaxDays*100000)
}

func TestMeltErrors(t *testing.T) {
	all := wrongKept()
	add := func(e api.Errno, spoil func(*call)) { all = append(all, wrong{e, spoil}) }
	add(api.ErrArg, func(c *call) { c.glasses = nil })
	add(api.ErrArg, func(c *call) { c.glasses = []api.Batch{sand(1)} })
	add(api.ErrArg, func(c *call) { c.glasses = []api.Batch{sand(1), sand(1), sand(1)} })
	spoilt := []wrong{
		{api.ErrArg, func(c *call) { c.glasses[0].Oxides = nil }},
		{api.ErrName, func(c *call) { c.glasses[0].Oxides[0] = "Si" }},
		{api.ErrScope, func(c *call) {
			for i := range c.glasses[0].Materials {
				c.glasses[0].Materials[i].Most, c.glasses[0].Materials[i].Step = api.MaxKilos, 1
			}
		}},
		{api.ErrNone, func(c *call) { c.glasses[0].Wanted = 1000 }},
		{api.ErrTwice, func(c *call) { c.glasses[1].Oxides[0] = "na" }},
		{api.ErrNone, func(c *call) { c.glasses[1].Shares[0] = span(999, 999) }},
	}
	inOrder(t, "Melt", append(all, spoilt...), call.melt)
}

// TestMeltAlike compares Melt with the best recipes, day by day.
func TestMeltAlike(t *testing.T) {
	r := newRand(89)
	count := 0
	for range 2000 {
		s := someSeason(r, 4)
		p := table(r, len(s.Makers), s.Days, -1, len(s.Articles))
		if !kept(s, p) {
			continue
		}
		count++
		want := 0
		var glasses []api.Batch
		for range s.Colours {
			b := sand(1 + r.Intn(5))
			b.Materials[0].Step, b.Wanted = 1+r.Intn(20), 1+r.Intn(5)
			glasses = append(glasses, b)
		}
		pulled, _, _, _ := reckoned(s, p)
		for i := range s.Ovens {
			for day := range s.Days {
				colour := firstColour(s, column(s, p, at(s, i), day))
				if colour < 0 {
					continue
				}
				recipe, cost, _, _ := batch.Best(glasses[colour])
				grams, _ := batch.Grams(glasses[colour], recipe)
				sum := 0
				for _, x := range grams {
					sum += x.Low
				}
				times := 0
				for times*sum < 1000*pulled[i][day] {
					times++
				}
				want += cost * times
			}
		}
		melts(t, "alike", s, p, glasses, want)
	}
	if count < 200 {
		t.Error(count)
	}
}
