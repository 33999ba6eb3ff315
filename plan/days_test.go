package plan_test

import (
	"testing"

	"cullet/api"
	"cullet/plan"
)

// reckons checks what comes of a plan.
func reckons(t *testing.T, what string, s api.Season, p, pulled, made [][]int, lacks []int, cost int) {
	t.Helper()
	got, e := plan.Pulls(s, p)
	rows(t, what+": pulls", got, e, pulled)
	got, e = plan.Made(s, p)
	rows(t, what+": made", got, e, made)
	list, e := plan.Lacks(s, p)
	rows(t, what+": lacks", [][]int{list}, e, [][]int{lacks})
	n, e := plan.Cost(s, p)
	fine(t, what+": cost", n, e, cost)
}

func TestReckoning(t *testing.T) {
	reckons(t, "pint quart", pub(), [][]int{{pint, quart}}, [][]int{{30000, 36000}}, [][]int{{100000, 54000}}, []int{0, 0}, 100)
	reckons(t, "pint pint", pub(), [][]int{{pint, pint}}, [][]int{{30000, 30000}}, [][]int{{100000, 100000}}, []int{0, 50000}, 50000)
	reckons(t, "quart pint", pub(), [][]int{{quart, pint}}, [][]int{{36000, 30000}}, [][]int{{54000, 90000}}, []int{10000, 0}, 10200)
	// on the day 2 the first furnace goes over to brown, at a cost of 1000, with 700 of 1440 minutes lost, and the machine 2 from jars to wine, at 60, with 200 more lost
	reckons(t, "town", town(), townPlan(), [][]int{{30000, 45000, 18000}, {30000, 0, 17500}},
		[][]int{{100000, 100000, 0}, {50000, 0, 70000}, {0, 50000, 11250}}, []int{90000 - 61250, 0},
		200+100+300+1060+3*(90000-61250))
}

// jars makes jars, and brown beer, at one furnace with two machines.
func jars() api.Season {
	s := town()
	s.Days, s.Orders, s.Ovens = 2, nil, []api.Oven{oven(0, 99999)}
	s.Makers = []api.Maker{maker(0, 300, jar, 1440, 2880, 1440), maker(0, 200, jar, 1440, 2880, 1440)}
	return s
}

// TestChanges looks at each way in which minutes are lost, and costs come: what is not told to change costs nothing.
func TestChanges(t *testing.T) {
	for what, x := range map[string]struct {
		start, plan [2][]int
		made        [][]int
		cost        int
	}{
		"nothing":              {[2][]int{{jar}, {jar}}, [2][]int{{jar, jar}, {jar, jar}}, [][]int{{1440, 1440}, {1440, 1440}}, 0},
		"from nothing":         {[2][]int{{-1}, {-1}}, [2][]int{{jar, jar}, {jar, jar}}, [][]int{{1440, 1440}, {1440, 1440}}, 0},
		"nothing runs":         {[2][]int{{jar}, {jar}}, [2][]int{{-1, -1}, {-1, -1}}, [][]int{{0, 0}, {0, 0}}, 1000},
		"stops, and goes on":   {[2][]int{{jar}, {jar}}, [2][]int{{-1, jar}, {jar, jar}}, [][]int{{0, 1440}, {1440, 1440}}, 300},
		"a job at the start":   {[2][]int{{beer}, {-1}}, [2][]int{{wine, wine}, {wine, wine}}, [][]int{{1350, 1440}, {1440, 1440}}, 20},
		"a job on a day":       {[2][]int{{wine}, {wine}}, [2][]int{{wine, beer}, {wine, wine}}, [][]int{{1440, 2720}, {1440, 1440}}, 25},
		"a colour at once":     {[2][]int{{-1}, {jar}}, [2][]int{{wine, wine}, {-1, -1}}, [][]int{{740, 1440}, {0, 0}}, 1400},
		"a colour and a job":   {[2][]int{{jar}, {jar}}, [2][]int{{beer, beer}, {-1, beer}}, [][]int{{1240, 2880}, {0, 2880}}, 1240},
		"a colour is paid for": {[2][]int{{jar}, {jar}}, [2][]int{{beer, beer}, {wine, wine}}, [][]int{{1240, 2880}, {540, 1440}}, 1100},
		"and back":             {[2][]int{{jar}, {jar}}, [2][]int{{beer, jar}, {-1, -1}}, [][]int{{1240, 540}, {0, 0}}, 1440 + 2030},
		// the furnace's colour at the start is that of the first machine, but for such as have no article
		"another at the start":  {[2][]int{{beer}, {jar}}, [2][]int{{jar, jar}, {jar, jar}}, [][]int{{540, 1440}, {640, 1440}}, 2030},
		"the first of both":     {[2][]int{{jar}, {beer}}, [2][]int{{jar, jar}, {jar, jar}}, [][]int{{1440, 1440}, {1340, 1440}}, 30},
		"the first is none":     {[2][]int{{-1}, {beer}}, [2][]int{{jar, jar}, {-1, jar}}, [][]int{{640, 1440}, {0, 1440}}, 2200},
		"a day without":         {[2][]int{{jar}, {jar}}, [2][]int{{-1, beer}, {-1, wine}}, [][]int{{0, 2880}, {0, 1440}}, 500},
		"one stops in the mean": {[2][]int{{jar}, {jar}}, [2][]int{{jar, beer}, {-1, wine}}, [][]int{{1440, 1240}, {0, 740}}, 200 + 1000 + 40},
	} {
		s := jars()
		s.Makers[0].Start, s.Makers[1].Start = x.start[0][0], x.start[1][0]
		got, e := plan.Made(s, x.plan[:])
		rows(t, what+": made", got, e, x.made)
		cost, e := plan.Cost(s, x.plan[:])
		fine(t, what+": cost", cost, e, x.cost)
	}
}

// TestLostDay: more than a day is not lost on a day, and nothing of it on the next one.
func TestLostDay(t *testing.T) {
	s := jars()
	s.Makers[1].Start = -1
	for minutes, want := range map[int]int{739: 1, 740: 0, 741: 0, 1440: 0} {
		s.Jobs[jar][wine].Minutes = minutes
		got, e := plan.Made(s, [][]int{{wine, wine}, {-1, wine}})
		rows(t, "made", got, e, [][]int{{want, 1440}, {0, 1440}})
	}
}

// TestRounding: bottles are whole ones.
func TestRounding(t *testing.T) {
	s := jars()
	s.Makers[0].Start = wine
	for _, x := range [][3]int{{7, 720, 3}, {1, 1439, 0}, {1, 0, 1}, {1, 1, 0}, {1441, 1439, 1}, {1000000, 1439, 694}, {1000000, 1, 999305}, {999999, 720, 499999}} {
		s.Makers[0].Rates[beer], s.Jobs[wine][beer].Minutes, s.Ovens[0].Most = x[0], x[1], api.MaxHold
		got, e := plan.Made(s, [][]int{{beer, beer}, {-1, -1}})
		rows(t, "made", got, e, [][]int{{x[2], x[0]}, {0, 0}})
	}
}

// TestLacks: an order gets what all machines make of its article up to its day.
func TestLacks(t *testing.T) {
	s := jars()
	s.Days = 3
	p := [][]int{{jar, jar, -1}, {-1, jar, jar}}
	for due, made := range []int{1440, 4320, 5760} {
		for _, quantity := range []int{0, 1, made - 1, made, made + 1, api.MaxRate} {
			s.Orders = []api.Order{order(beer, 77, 2, 3), order(jar, quantity, due, 5)}
			lacks := max(0, quantity-made)
			got, e := plan.Lacks(s, p)
			fine(t, "lacks", got, e, []int{77, lacks})
			cost, e := plan.Cost(s, p)
			fine(t, "cost", cost, e, 500+77*3+lacks*5)
		}
	}
}

// TestReckoningNothing: a season without machines or furnaces may have a plan, too.
func TestReckoningNothing(t *testing.T) {
	s := pub()
	s.Makers, s.Ovens = nil, nil
	reckons(t, "no furnace", s, nil, nil, nil, []int{100000, 50000}, 150000)
	s.Ovens = []api.Oven{oven(0, 9)}
	reckons(t, "no machine", s, nil, [][]int{{0, 0}}, nil, []int{100000, 50000}, 150000)
	reckons(t, "nothing", api.Season{Days: 2}, nil, nil, nil, nil, 0)
}

// TestReckoningMost: the greatest costs and penalties are reckoned with.
func TestReckoningMost(t *testing.T) {
	s := api.Season{Days: api.MaxDays, Ovens: []api.Oven{oven(0, 0)}, Colours: never(1), Jobs: never(api.MaxArticles)}
	for i := range api.MaxArticles {
		s.Articles = append(s.Articles, article(string(rune('a'+i)), 0, 1))
		s.Orders = append(s.Orders, order(i, api.MaxRate, i, api.MaxCosts))
	}
	var p [][]int
	for range api.MaxMakers {
		s.Makers = append(s.Makers, maker(0, api.MaxCosts, 3, 0, 0, 0, 0, 0, 0, 0, 0))
		p = append(p, []int{-1, -1, -1, -1, -1, -1, -1, -1, -1, -1, -1, -1, -1, -1})
	}
	cost, e := plan.Cost(s, p)
	fine(t, "cost", cost, e, 8000000000000+84000000)
}

// wrongKept are the errors of a season and a plan that shall keep it, in their order.
func wrongKept() []wrong {
	all := wrongPlans()
	for _, change := range []func(p [][]int){
		func(p [][]int) { p[0][0], p[2][0] = -1, -1 }, func(p [][]int) { p[1][1] = jar }, func(p [][]int) { p[0][2] = jar },
	} {
		all = append(all, wrong{api.ErrState, func(c *call) { change(c.plan) }})
	}
	return append(all, wrong{api.ErrState, func(c *call) { c.s.Ovens[0].Least, c.plan = 18001, townPlan() }})
}

func TestReckoningErrors(t *testing.T) {
	inOrder(t, "Pulls, Made, Lacks, Cost", wrongKept(), call.counted)
}

// TestReckoningAlike compares what comes of plans with the chapter's words, day by day.
func TestReckoningAlike(t *testing.T) {
	r := newRand(84)
	count := 0
	for range 4000 {
		s := someSeason(r, 4)
		p := table(r, len(s.Makers), s.Days, -1, len(s.Articles))
		if !kept(s, p) {
			if got := (call{s: s, plan: p}).counted(); !onlyError(got, api.ErrState) {
				t.Fatal(got)
			}
			continue
		}
		count++
		pulled, made, lacks, cost := reckoned(s, p)
		reckons(t, "alike", s, p, pulled, made, lacks, cost)
	}
	if count < 500 {
		t.Error(count)
	}
}
