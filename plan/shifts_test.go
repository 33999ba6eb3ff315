package plan_test

import (
	"math"
	"slices"
	"testing"

	"cullet/api"
	"cullet/plan"
)

func TestShiftsExamples(t *testing.T) {
	got, e := plan.Shifts(pub(), 0)
	rows(t, "pub", got, e, [][]int{{pint}, {quart}})
	got, e = plan.Shifts(town(), 0)
	rows(t, "the machines 0 and 2", got, e, [][]int{{-1, jar}, {-1, beer}, {-1, wine}, {jar, -1}, {jar, jar}, {beer, -1}, {beer, beer}, {beer, wine}})
	got, e = plan.Shifts(town(), 1)
	rows(t, "the machine 1", got, e, [][]int{{-1}, {beer}, {wine}})
}

// TestShiftsEdges looks at one machine, or two, at a furnace.
func TestShiftsEdges(t *testing.T) {
	two := []api.Maker{maker(0, 0, -1, 5, 7), maker(0, 0, -1, 0, 11)}
	for what, x := range map[string]struct {
		oven   api.Oven
		makers []api.Maker
		want   [][]int
	}{
		"no machines":             {oven(0, 0), nil, [][]int{{}}},
		"no machines, more":       {oven(0, 9), nil, [][]int{{}}},
		"no machines, at least 1": {oven(1, 9), nil, nil},
		"no rate":                 {oven(0, 9), []api.Maker{maker(0, 0, 1, 0, 0)}, [][]int{{-1}}},
		"not without":             {oven(1, 99), two[:1], [][]int{{0}, {1}}},
		"just the least":          {oven(7, 99), two[:1], [][]int{{1}}},
		"just the most":           {oven(0, 5), two[:1], [][]int{{-1}, {0}}},
		"below the most":          {oven(0, 4), two[:1], [][]int{{-1}}},
		"between":                 {oven(6, 6), two[:1], nil},
		// both articles have another colour
		"two machines":         {oven(0, 99), two, [][]int{{-1, -1}, {-1, 1}, {0, -1}, {1, -1}, {1, 1}}},
		"two machines, 18":     {oven(18, 18), two, [][]int{{1, 1}}},
		"two machines, 8 to 9": {oven(8, 9), two, nil},
		"of others":            {oven(0, 99), []api.Maker{maker(1, 0, 0, 5, 7), maker(0, 0, 0, 3, 0)}, [][]int{{-1}, {0}}},
	} {
		s := api.Season{
			Days: 1, Articles: []api.Article{article("a", 0, 10000), article("b", 1, 10000)}, Ovens: []api.Oven{x.oven, oven(0, 99)},
			Makers: x.makers, Jobs: never(2), Colours: never(2),
		}
		got, e := plan.Shifts(s, 0)
		rows(t, what, got, e, x.want)
	}
}

// TestShiftsRounding: the pull is rounded down, for all machines together.
func TestShiftsRounding(t *testing.T) {
	s := api.Season{Days: 1, Articles: []api.Article{article("a", 0, 9999)}, Ovens: []api.Oven{oven(1, 1)}, Jobs: never(1), Colours: never(1)}
	s.Makers = []api.Maker{maker(0, 0, -1, 1), maker(0, 0, -1, 1), maker(0, 0, -1, 1)}
	got, e := plan.Shifts(s, 0)
	rows(t, "one has 0.9999, two 1.9998, three 2.9997", got, e, [][]int{{-1, 0, 0}, {0, -1, 0}, {0, 0, -1}})
}

// TestShiftsMost: what a furnace may hold at most is pulled by the greatest rates of the heaviest articles, and more is too much.
func TestShiftsMost(t *testing.T) {
	s := api.Season{Days: 1, Articles: []api.Article{article("a", 0, api.MaxGob)}, Ovens: []api.Oven{oven(api.MaxHold, api.MaxHold)}, Jobs: never(1), Colours: never(1)}
	for range api.MaxMakers {
		s.Makers = append(s.Makers, maker(0, 0, 0, api.MaxRate))
	}
	got, e := plan.Shifts(s, 0)
	rows(t, "too much", got, e, nil)
	for i := range s.Makers {
		s.Makers[i].Rates[0] = api.MaxRate / 10 / api.MaxMakers
	}
	s.Makers[5].Rates[0] += 4
	got, e = plan.Shifts(s, 0)
	rows(t, "just as much", got, e, [][]int{{0, 0, 0, 0, 0, 0}})
}

func TestShiftsErrors(t *testing.T) {
	all := wrongSeasons()
	for _, n := range []int{-1, 2, 3, math.MinInt, math.MaxInt} {
		all = append(all, wrong{api.ErrNone, func(c *call) { c.oven = n }})
	}
	inOrder(t, "Shifts", all, call.shifts)
	got, e := plan.Shifts(api.Season{Days: 1}, 0)
	if !onlyError([]any{got, e}, api.ErrNone) {
		t.Error(got, e)
	}
}

// TestShiftsAlike compares Shifts with the chapter's words, list by list.
func TestShiftsAlike(t *testing.T) {
	r := newRand(81)
	for range 2000 {
		s := someSeason(r, 3)
		for i := range s.Ovens {
			got, e := plan.Shifts(s, i)
			rows(t, "shifts", got, e, shiftsOf(s, i))
		}
	}
}

func TestKeeps(t *testing.T) {
	for what, x := range map[string]struct {
		spoil func(p [][]int)
		want  bool
	}{
		"nothing spoiled":         {func(p [][]int) {}, true},
		"the first day":           {func(p [][]int) { p[0][0] = -1 }, false},
		"the last day":            {func(p [][]int) { p[2][2] = -1 }, false},
		"a rate of 0":             {func(p [][]int) { p[1][1] = jar }, false},
		"two colours":             {func(p [][]int) { p[2][1] = beer }, false},
		"too much":                {func(p [][]int) { p[2][0], p[0][2] = jar, beer }, true},
		"colours of two furnaces": {func(p [][]int) { p[0][2], p[2][2], p[1][2] = jar, jar, wine }, true},
	} {
		p := townPlan()
		x.spoil(p)
		got, e := plan.Keeps(town(), p)
		fine(t, what, got, e, x.want)
	}
	s := town()
	s.Ovens[0].Most = 44999
	got, e := plan.Keeps(s, [][]int{{jar, jar, jar}, {-1, -1, -1}, {-1, jar, -1}})
	fine(t, "a kilogram too much", got, e, false)
	got, e = plan.Keeps(api.Season{Days: 3}, nil)
	fine(t, "nothing", got, e, true)
	got, e = plan.Keeps(api.Season{Days: 3, Ovens: []api.Oven{oven(1, 1)}}, nil)
	fine(t, "nobody", got, e, false)
}

// wrongPlans are the errors of a season and a plan, in their order.
func wrongPlans() []wrong {
	all := wrongSeasons()
	add := func(change func(p *[][]int)) {
		all = append(all, wrong{api.ErrArg, func(c *call) { change(&c.plan) }})
	}
	add(func(p *[][]int) { *p = nil })
	add(func(p *[][]int) { *p = townPlan()[:2] })
	add(func(p *[][]int) { *p = append(townPlan(), []int{0, 0, 0}) })
	for i := range 3 {
		for _, days := range [][]int{nil, {-1, -1}, {-1, -1, -1, -1}} {
			add(func(p *[][]int) { (*p)[i] = days })
		}
		for _, n := range []int{-2, 3, math.MinInt, math.MaxInt} {
			for day := range 3 {
				add(func(p *[][]int) {
					(*p)[i] = []int{-1, -1, -1}
					(*p)[i][day] = n
				})
			}
		}
	}
	return all
}

func TestKeepsErrors(t *testing.T) { inOrder(t, "Keeps", wrongPlans(), call.keeps) }

// TestKeepsAlike compares Keeps with the chapter's words.
func TestKeepsAlike(t *testing.T) {
	r := newRand(82)
	counts := map[bool]int{}
	for range 3000 {
		s := someSeason(r, 3)
		p := table(r, len(s.Makers), s.Days, -1, len(s.Articles))
		got, e := plan.Keeps(s, p)
		fine(t, "keeps", got, e, kept(s, p))
		counts[got]++
	}
	if counts[true] < 300 || counts[false] < 300 {
		t.Error(counts)
	}
}

// TestKeepsShifts: the plans that keep a season are those whose days are shifts.
func TestKeepsShifts(t *testing.T) {
	r := newRand(83)
	for range 300 {
		s := someSeason(r, 2)
		p := make([][]int, len(s.Makers))
		isKept := true
		for i := range s.Ovens {
			all, _ := plan.Shifts(s, i)
			isKept = isKept && len(all) > 0
			for range s.Days {
				shift := slices.Repeat([]int{-1}, len(s.Makers))
				if len(all) > 0 {
					shift = all[r.Intn(len(all))]
				}
				for j, m := range at(s, i) {
					p[m] = append(p[m], shift[j])
				}
			}
		}
		got, e := plan.Keeps(s, p)
		fine(t, "keeps", got, e, isKept)
	}
}
