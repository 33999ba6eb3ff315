package plan_test

import (
	"slices"
	"testing"

	"cullet/api"
	"cullet/plan"
)

// isBest checks what Best says of a season.
func isBest(t *testing.T, what string, s api.Season, want [][]int, cost int) {
	t.Helper()
	got, n, found, e := plan.Best(s)
	rows(t, what, got, e, want)
	equal(t, what+": cost", n, cost)
	equal(t, what+": found", found, true)
}

func TestBestExamples(t *testing.T) {
	isBest(t, "pub", pub(), [][]int{{pint, quart}}, 100)
	s := pub()
	s.Orders[1].Penalty = 0
	isBest(t, "quarts for nothing", s, [][]int{{pint, pint}}, 0)
	s.Makers[0].Start = quart
	isBest(t, "quarts at the start", s, [][]int{{pint, pint}}, 100)
	s.Orders[0].Due = 0
	isBest(t, "pints at once", s, [][]int{{pint, pint}}, 100+10000)
	s.Orders[0].Penalty = 0
	isBest(t, "all for nothing", s, [][]int{{quart, quart}}, 0)
	isBest(t, "no furnace", api.Season{Days: api.MaxDays}, nil, 0)
	s = pub()
	s.Makers, s.Ovens = nil, []api.Oven{oven(0, 9)}
	isBest(t, "no machine", s, nil, 150000)
}

// free is a season in which nothing costs anything, with so many machines, each at its own furnace, that make two articles or none.
func free(days, machines int) api.Season {
	s := api.Season{Days: days, Articles: []api.Article{article("a", 0, 1), article("b", 0, 1)}, Jobs: never(2), Colours: never(1)}
	for i := range machines {
		s.Ovens = append(s.Ovens, oven(0, 9))
		s.Makers = append(s.Makers, maker(i, 0, 1, 10, 10))
	}
	return s
}

// TestBestFirst: of several plans that cost the least the first one is told, compared machine by machine, and then day by day.
func TestBestFirst(t *testing.T) {
	isBest(t, "all alike", free(3, 2), [][]int{{-1, -1, -1}, {-1, -1, -1}}, 0)
	s := free(3, 2)
	s.Orders = []api.Order{order(1, 10, 2, 1)}
	isBest(t, "one of them", s, [][]int{{-1, -1, -1}, {-1, -1, 1}}, 0)
	s.Orders[0].Quantity = 30
	isBest(t, "three of them", s, [][]int{{-1, -1, -1}, {1, 1, 1}}, 0)
	s.Orders[0].Quantity = 40
	isBest(t, "four of them", s, [][]int{{-1, -1, 1}, {1, 1, 1}}, 0)
	s.Orders[0].Due = 1
	isBest(t, "not more by then", s, [][]int{{1, 1, -1}, {1, 1, -1}}, 0)
	s.Orders = []api.Order{order(0, 10, 2, 1), order(1, 10, 1, 1)}
	isBest(t, "both", s, [][]int{{-1, -1, -1}, {-1, 1, 0}}, 0)
	// the machines of a furnace that come behind others' machines
	s.Makers[0].Oven, s.Makers[1].Oven = 1, 0
	isBest(t, "the other way round", s, [][]int{{-1, -1, -1}, {-1, 1, 0}}, 0)
	s.Makers[1].Idle = 1
	isBest(t, "rather the first one", s, [][]int{{-1, -1, -1}, {0, 1, 0}}, 0)
}

func TestBestNone(t *testing.T) {
	s := town()
	s.Ovens[1] = oven(40001, 40001)
	if got := (call{s: s}).best(); !onlyError(got, api.OK) {
		t.Error(got)
	}
	// without a plan there are not too many of them
	s.Days, s.Ovens[0], s.Ovens[1].Most = api.MaxDays, oven(0, api.MaxHold), 40002
	if got := (call{s: s}).best(); !onlyError(got, api.OK) {
		t.Error(got)
	}
	s = api.Season{Days: 1, Ovens: []api.Oven{oven(1, 2)}}
	if got := (call{s: s}).best(); !onlyError(got, api.OK) {
		t.Error(got)
	}
}

// TestBestScope: of at most MaxPlans plans the best one is told.
func TestBestScope(t *testing.T) {
	one := func(days, articles int) api.Season {
		s := free(days, 1)
		s.Makers[0].Rates[1] = articles
		return s
	}
	for _, x := range []struct {
		s    api.Season
		want api.Errno
	}{
		{one(11, 1), api.OK},                  // 3^11 are 177147
		{one(12, 1), api.ErrScope},            // 531441
		{one(14, 0), api.OK},                  // 2^14
		{free(5, 2), api.OK},                  // 9^5 are 59049
		{free(6, 2), api.ErrScope},            // 531441
		{free(3, 3), api.OK},                  // 27^3
		{free(4, 3), api.ErrScope},            // 531441
		{free(api.MaxDays, 3), api.ErrScope},  // 27^14 are far more than 2^63
		{free(api.MaxDays, 0), api.OK},        // 1
		{shiftsAndDays(54, 3), api.OK},        // 157464
		{shiftsAndDays(54, 4), api.ErrScope},  // 8503056
		{shiftsAndDays(7, 6), api.OK},         // 117649
		{shiftsAndDays(8, 6), api.ErrScope},   // 262144
		{shiftsAndDays(21, 4), api.OK},        // 194481
		{shiftsAndDays(22, 4), api.ErrScope},  // 234256
		{shiftsAndDays(54, 14), api.ErrScope}, // 54^14
		{shiftsAndDays(1, 14), api.OK},        // 1
	} {
		got := (call{s: x.s}).best()
		if x.want != api.OK && !onlyError(got, x.want) || got[3] != x.want || got[2] != (x.want == api.OK) {
			t.Errorf("%d days, %d furnaces: got %v, want %v", x.s.Days, len(x.s.Ovens), got, x.want)
		}
	}
}

// shiftsAndDays has one furnace with so many shifts on so many days.
func shiftsAndDays(shifts, days int) api.Season {
	s := town()
	manyShifts(shifts)(&s)
	s.Days, s.Orders = days, nil
	return s
}

func TestBestErrors(t *testing.T) {
	// 8 and 10 shifts on 3 days
	all := append(wrongSeasons(), wrong{api.ErrScope, func(c *call) {
		c.s.Makers = append(c.s.Makers, maker(1, 0, -1, 1, 1, 1))
	}})
	inOrder(t, "Best", all, call.best)
}

// TestBestAlike compares Best with all plans that keep a season, reckoned with as the chapter says it.
func TestBestAlike(t *testing.T) {
	r := newRand(85)
	founds, costs := map[bool]int{}, map[int]int{}
	for range 1500 {
		s := someSeason(r, 3)
		if !isSmall(s, 3000) {
			continue
		}
		var best [][]int
		least, found := 0, false
		for _, p := range plansOf(s) {
			_, _, _, cost := reckoned(s, p)
			if !found || cost < least || cost == least && slices.CompareFunc(p, best, slices.Compare[[]int]) < 0 {
				best, least, found = p, cost, true
			}
		}
		founds[found]++
		costs[least]++
		got, cost, is, e := plan.Best(s)
		rows(t, "plan", got, e, best)
		equal(t, "cost", cost, least)
		equal(t, "found", is, found)
	}
	if founds[true] < 300 || founds[false] < 100 || len(costs) < 100 {
		t.Error(founds, len(costs))
	}
}
