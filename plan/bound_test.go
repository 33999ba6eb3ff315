package plan_test

import (
	"math"
	"slices"
	"testing"

	"cullet/api"
	"cullet/plan"
)

// bounds checks what Bound says of a season that has shifts.
func bounds(t *testing.T, what string, s api.Season, want int, prices ...int) {
	t.Helper()
	got, none, e := plan.Bound(s, prices)
	fine(t, what, got, e, want)
	equal(t, what+": none", none, false)
}

func TestBoundExamples(t *testing.T) {
	bounds(t, "pub 0 0", pub(), 0, 0, 0)
	bounds(t, "pub 1 1", pub(), -50000, 1, 1)
	// all of it is pints: only what is made of them brings anything
	bounds(t, "pub 1 0", pub(), -100000, 1, 0)
	// quarts at once, at a cost of 100: 54000 and then 60000
	bounds(t, "pub 0 1", pub(), 50000+100-114000, 0, 1)
}

// TestBoundDue: a bottle brings a price up to the day on which its order is due, even if it is too much.
func TestBoundDue(t *testing.T) {
	s := free(3, 1)
	for due := range 3 {
		s.Orders = []api.Order{order(1, 7, due, 9)}
		for price := range 10 {
			bounds(t, "due", s, price*7-price*10*(due+1), price)
		}
	}
	// not with an article that is not ordered
	s.Makers[0].Rates[1] = 0
	bounds(t, "not made", s, 63, 9)
}

// TestBoundFurnaces: each furnace goes its own way, of which the changes, and the days without an article, are paid.
func TestBoundFurnaces(t *testing.T) {
	s := free(2, 3)
	s.Orders = []api.Order{order(0, 5, 0, 100), order(1, 6, 1, 100)}
	bounds(t, "three", s, 3*5+4*6-3*10*(4+4), 3, 4)
	s.Jobs = [][]api.Turn{{turn(0, 0), turn(720, 1)}, {turn(144, 2), turn(0, 0)}}
	// from b to a at once 27 - 2 on the first day, and back 20 - 1 on the second one, is less than b and b
	bounds(t, "three that change", s, 3*5+4*6-3*10*(4+4), 3, 4)
	bounds(t, "three that change more", s, 7*5+4*6-3*(7*9-2+4*5-1), 7, 4)
	for i := range s.Makers {
		s.Makers[i].Idle = i
	}
	bounds(t, "idle", s, 0, 0, 0)
	for i := range s.Ovens {
		s.Ovens[i].Most = 0
		s.Articles[0].Weight, s.Articles[1].Weight = 1000, 1000
	}
	bounds(t, "idle all along", s, 2*3+40*5+50*6, 40, 50)
}

func TestBoundNone(t *testing.T) {
	s := pub()
	s.Ovens = append(s.Ovens, oven(1, 2))
	if bound, none, e := plan.Bound(s, []int{1, 1}); bound != 0 || !none || e != api.OK {
		t.Error(bound, none, e)
	}
	prices, e := plan.Prices(s)
	fine(t, "prices", prices, e, []int{0, 0})
	bounds(t, "nothing", api.Season{Days: 1}, 0)
	s.Ovens, s.Makers = nil, nil
	bounds(t, "no furnace", s, 150000, 1, 1)
}

func TestBoundErrors(t *testing.T) {
	all := wrongSeasons()
	add := func(prices ...int) {
		all = append(all, wrong{api.ErrArg, func(c *call) { c.prices = prices }})
	}
	for _, n := range []int{-1, 4, math.MinInt, math.MaxInt} {
		add(n, 0)
	}
	for _, n := range []int{-1, 3, math.MinInt, math.MaxInt} {
		add(0, n)
	}
	add()
	add(0)
	add(0, 0, 0)
	inOrder(t, "Bound", all, call.bound)
	// what is wrong with the prices comes ahead of what there is none of
	c := good()
	c.s.Ovens[1] = oven(40000, 40000)
	c.prices = []int{4, 0}
	if got := c.bound(); !onlyError(got, api.ErrArg) {
		t.Error(got)
	}
}

// leastNet is the least cost of a furnace, less prices, of all its ways, as the chapter says it.
func leastNet(s api.Season, oven int, prices []int) int {
	least := math.MaxInt
	machines := at(s, oven)
	for _, way := range ways(s, oven) {
		net, before := 0, column(s, nil, machines, -1)
		for day, now := range way {
			made, cost := followed(s, machines, before, now)
			net += cost
			for i, article := range now {
				for j, x := range s.Orders {
					if x.Article == article && day <= x.Due {
						net -= made[i] * prices[j]
					}
				}
			}
			before = now
		}
		least = min(least, net)
	}
	return least
}

// somePrices are prices of a season's orders, some of them the least and the greatest ones.
func somePrices(s api.Season, choose func(int) int) []int {
	var all []int
	for _, x := range s.Orders {
		all = append(all, []int{0, x.Penalty, choose(x.Penalty + 1)}[choose(3)])
	}
	return all
}

// TestBoundAlike compares Bound with all ways of each furnace.
func TestBoundAlike(t *testing.T) {
	r := newRand(86)
	nones := map[bool]int{}
	for range 1500 {
		s := someSeason(r, 3)
		if !isSmall(s, 3000) {
			continue
		}
		prices := somePrices(s, r.Intn)
		want, isNone := 0, false
		for i := range s.Ovens {
			isNone = isNone || len(shiftsOf(s, i)) == 0
		}
		if !isNone {
			for i, x := range s.Orders {
				want += prices[i] * x.Quantity
			}
			for i := range s.Ovens {
				want += leastNet(s, i, prices)
			}
		}
		nones[isNone]++
		got, none, e := plan.Bound(s, prices)
		fine(t, "bound", got, e, want)
		equal(t, "none", none, isNone)
	}
	if nones[true] < 100 || nones[false] < 300 {
		t.Error(nones)
	}
}

// TestPrices: prices may be, and what they prove is not less than what prices of 0 prove.
func TestPrices(t *testing.T) {
	r := newRand(87)
	more := 0
	for range 300 {
		s := someSeason(r, 4)
		prices, e := plan.Prices(s)
		equal(t, "error", e, api.OK)
		equal(t, "as many", len(prices), len(s.Orders))
		bound, _, e := plan.Bound(s, prices)
		least, _, _ := plan.Bound(s, make([]int, len(s.Orders)))
		equal(t, "error of Bound", e, api.OK)
		if bound < least {
			t.Error(s, prices, bound, least)
		}
		if bound > least {
			more++
		}
	}
	if more < 60 {
		t.Error(more)
	}
}

// TestPricesMost: the greatest numbers are reckoned with.
func TestPricesMost(t *testing.T) {
	s := free(api.MaxDays, 3)
	s.Makers = append(s.Makers, s.Makers...)
	var p [][]int
	for i := range s.Makers {
		s.Makers[i] = maker(i%3, api.MaxCosts, 1, api.MaxRate, api.MaxRate)
		s.Ovens[i%3] = oven(0, api.MaxHold)
		p = append(p, slices.Repeat([]int{i / 3}, api.MaxDays))
	}
	// three machines make 42 millions of one article, of which one is wanted, and three of the other one
	s.Orders = []api.Order{order(0, api.MaxRate, 13, api.MaxCosts), order(1, api.MaxRate, 0, api.MaxCosts)}
	cost, e := plan.Cost(s, p)
	fine(t, "cost", cost, e, 0)
	bounds(t, "greatest prices", s, 2*1000000000000-6*14*1000000000000, api.MaxCosts, api.MaxCosts)
	prices, e := plan.Prices(s)
	equal(t, "error", e, api.OK)
	bound, _, e := plan.Bound(s, prices)
	if e != api.OK || bound < 0 || bound > cost {
		t.Error(prices, bound, e)
	}
	for i := range s.Jobs {
		s.Jobs[i][1-i] = turn(1440, api.MaxCosts)
	}
	for i := range s.Makers {
		s.Makers[i].Rates[0], s.Makers[i].Start = 1, 1
	}
	prices, e = plan.Prices(s)
	equal(t, "error", e, api.OK)
	bound, _, e = plan.Bound(s, prices)
	if e != api.OK || bound < 900000000000 {
		t.Error(prices, bound, e)
	}
}

// alwaysRuns has a machine that must go over to what is ordered, or make something else all along.
func alwaysRuns(s *api.Season, cost, penalty int) {
	s.Ovens[0] = oven(10, 10)
	s.Articles[0].Weight, s.Articles[1].Weight = 10000, 10000
	s.Makers[0].Start, s.Jobs[0][1].Cost = 0, cost
	s.Orders = []api.Order{order(1, 20, 2, penalty)}
}

// TestPricesProve: where the prices that prove the most are plain, they are found, or such as prove nearly as much.
func TestPricesProve(t *testing.T) {
	for what, x := range map[string]struct {
		change func(*api.Season)
		least  int
	}{
		"never enough":       {func(s *api.Season) { s.Orders = []api.Order{order(0, 100, 2, 50)} }, 50 * 70},
		"enough for nothing": {func(s *api.Season) { s.Orders = []api.Order{order(0, 10, 2, 50)} }, 0},
		"rather paid for":    {func(s *api.Season) { s.Jobs[1][0].Cost, s.Orders = 1000, []api.Order{order(0, 30, 2, 20)} }, 200},
		"rather changed":     {func(s *api.Season) { s.Jobs[1][0].Cost, s.Orders = 100, []api.Order{order(0, 30, 2, 20)} }, 95},
		"a machine of both":  {func(s *api.Season) { s.Orders = []api.Order{order(0, 20, 2, 1000), order(1, 20, 2, 1000)} }, 9900},
		"with great penalty": {func(s *api.Season) { s.Orders = []api.Order{order(1, 31, 2, api.MaxCosts)} }, api.MaxCosts},
		"at two furnaces":    {func(s *api.Season) { *s = free(3, 2); s.Orders = []api.Order{order(1, 61, 2, 30)} }, 30},
		// a change costs so much, and 30 are made behind it: a price of a thirtieth of it proves the most
		"a price between":       {func(s *api.Season) { alwaysRuns(s, 100, 100) }, 60},
		"a great price between": {func(s *api.Season) { alwaysRuns(s, api.MaxCosts, api.MaxCosts) }, 650000},
		"nothing can be made": {func(s *api.Season) {
			s.Ovens[0].Most = 0
			s.Articles[0].Weight = 99999
			s.Articles[1].Weight = 99999
			s.Orders = []api.Order{order(1, 31, 2, 30)}
		}, 930},
	} {
		s := free(3, 1)
		x.change(&s)
		prices, e := plan.Prices(s)
		equal(t, what+": error", e, api.OK)
		bound, _, e := plan.Bound(s, prices)
		_, cost, _, _ := plan.Best(s)
		if e != api.OK || bound < x.least || bound > cost {
			t.Errorf("%s: prices %v prove %d, the best plan costs %d", what, prices, bound, cost)
		}
	}
}
