package plan_test

import (
	"math"
	"strings"
	"testing"

	"cullet/api"
	"cullet/plan"
)

// manyArticles has so many articles, and nothing to make them.
func manyArticles(count int) func(*api.Season) {
	return func(s *api.Season) {
		s.Articles, s.Makers, s.Orders, s.Ovens = nil, nil, nil, nil
		for i := range count {
			s.Articles = append(s.Articles, article("a"+strings.Repeat("x", i), 0, 1))
			s.Orders = append(s.Orders, order(i, 1, 0, 1))
		}
		s.Jobs = never(count)
	}
}

// manyMakers has so many machines that make nothing.
func manyMakers(count int) func(*api.Season) {
	return func(s *api.Season) {
		s.Ovens[0].Least, s.Makers = 0, nil
		for range count {
			s.Makers = append(s.Makers, maker(0, 0, -1, 0, 0, 0))
		}
	}
}

// manyShifts has one furnace with two machines and so many shifts.
func manyShifts(count int) func(*api.Season) {
	return func(s *api.Season) {
		manyArticles(7)(s)
		for i := range s.Articles {
			s.Articles[i].Weight = 10000
		}
		// a pair of the articles i and j pulls 10 * i + j, from 0 (none) to 77
		s.Ovens = []api.Oven{oven(0, (count-1)/8*10+(count-1)%8)}
		s.Makers = []api.Maker{maker(0, 0, -1, 10, 20, 30, 40, 50, 60, 70), maker(0, 0, -1, 1, 2, 3, 4, 5, 6, 7)}
	}
}

func TestCheckAllowed(t *testing.T) {
	for what, change := range map[string]func(*api.Season){
		"nothing changed": func(s *api.Season) {},
		"nothing":         func(s *api.Season) { *s = api.Season{Days: 1} },
		"most days":       func(s *api.Season) { s.Days = api.MaxDays },
		"most articles":   manyArticles(api.MaxArticles),
		"most machines":   manyMakers(api.MaxMakers),
		"most furnaces":   func(s *api.Season) { s.Ovens = append(s.Ovens, oven(0, 0)) },
		"most shifts":     manyShifts(54),
		"names": func(s *api.Season) {
			s.Articles[0].Name, s.Articles[1].Name, s.Articles[2].Name = "a", "az-09", "z"+strings.Repeat("-9", 7)+"q"
		},
		"light":              func(s *api.Season) { s.Articles[0].Weight = 1 },
		"heavy":              func(s *api.Season) { s.Articles[0].Weight = api.MaxGob },
		"pulls":              func(s *api.Season) { s.Ovens[0] = oven(api.MaxHold, api.MaxHold) },
		"pulls nothing":      func(s *api.Season) { s.Ovens[0] = oven(0, 0) },
		"rates and idle":     func(s *api.Season) { s.Makers[0] = maker(1, api.MaxCosts, 2, 0, api.MaxRate, 0) },
		"a start that isn't": func(s *api.Season) { s.Makers[0].Start = wine },
		"least and most job": func(s *api.Season) { s.Jobs[0][1], s.Jobs[1][0] = turn(0, 0), turn(1440, api.MaxCosts) },
		"least and most of colours": func(s *api.Season) {
			s.Colours[0][1], s.Colours[1][0] = turn(0, 0), turn(1440, api.MaxCosts)
		},
		"most colours":          func(s *api.Season) { s.Colours, s.Articles[0].Colour = never(api.MaxColours), 5 },
		"least and most orders": func(s *api.Season) { s.Orders = []api.Order{order(0, 0, 0, 0), order(1, api.MaxRate, 2, api.MaxCosts)} },
		"as many orders":        func(s *api.Season) { s.Orders = append(s.Orders, order(1, 1, 1, 1)) },
		"no colours without articles": func(s *api.Season) {
			*s = api.Season{Days: 1, Ovens: []api.Oven{oven(0, 9)}, Makers: []api.Maker{maker(0, 1, -1)}}
		},
	} {
		s := town()
		change(&s)
		equal(t, what, plan.Check(s), api.OK)
	}
}

// badNames are names that are none.
func badNames() []string {
	return []string{"", "A", "1", "-", "-a", "aB", "a_", "a/", "a:", "a{", "a`", "`", "{", "a b", "a\n", "ä", "a\x00", "abcdefghijklmnopq", strings.Repeat("a", 70000)}
}

// adder adds errors of a season to a list.
type adder struct{ all []wrong }

func (a *adder) add(e api.Errno, change func(*api.Season)) {
	a.all = append(a.all, wrong{e, func(c *call) { change(&c.s) }})
}

// numbers adds ErrArg for each of some numbers.
func (a *adder) numbers(set func(*api.Season, int), numbers ...int) {
	for _, n := range append(numbers, math.MinInt, math.MaxInt) {
		a.add(api.ErrArg, func(s *api.Season) { set(s, n) })
	}
}

// things adds ErrNone for each of some numbers of what there is not.
func (a *adder) things(set func(*api.Season, int), numbers ...int) {
	for _, n := range append(numbers, math.MinInt, math.MaxInt) {
		a.add(api.ErrNone, func(s *api.Season) { set(s, n) })
	}
}

func (a *adder) articles() {
	a.add(api.ErrLimit, func(s *api.Season) {
		for len(s.Articles) <= api.MaxArticles {
			s.Articles = append(s.Articles, article("m"+strings.Repeat("x", len(s.Articles)), 0, 1))
		}
	})
	for _, name := range badNames() {
		a.add(api.ErrName, func(s *api.Season) { s.Articles[1].Name = name })
	}
	a.add(api.ErrTwice, func(s *api.Season) { s.Articles[1].Name = s.Articles[0].Name })
	a.things(func(s *api.Season, n int) { s.Articles[1].Colour = n }, -1, api.MaxColours+1)
	a.numbers(func(s *api.Season, n int) { s.Articles[1].Weight = n }, 0, -1, api.MaxGob+1)
	a.add(api.ErrName, func(s *api.Season) { s.Articles[2].Name = "Wine" })
	a.add(api.ErrTwice, func(s *api.Season) { s.Articles[2].Name = s.Articles[0].Name })
}

func (a *adder) ovens() {
	a.add(api.ErrLimit, func(s *api.Season) { s.Ovens = append(s.Ovens, oven(0, 0), oven(0, 0)) })
	a.numbers(func(s *api.Season, n int) { s.Ovens[0].Least = n }, -1, 50001)
	a.numbers(func(s *api.Season, n int) { s.Ovens[0].Most = n }, -1, api.MaxHold+1, 9999)
	a.numbers(func(s *api.Season, n int) { s.Ovens[1] = oven(n, n) }, -1, api.MaxHold+1)
}

func (a *adder) makers() {
	a.add(api.ErrLimit, func(s *api.Season) {
		for len(s.Makers) <= api.MaxMakers {
			s.Makers = append(s.Makers, maker(0, 0, 0, 0, 0, 0))
		}
	})
	a.things(func(s *api.Season, n int) { s.Makers[1].Oven = n }, -1, 2)
	a.add(api.ErrArg, func(s *api.Season) { s.Makers[1].Rates = nil })
	a.add(api.ErrArg, func(s *api.Season) { s.Makers[1].Rates = []int{1, 1} })
	a.add(api.ErrArg, func(s *api.Season) { s.Makers[1].Rates = []int{1, 1, 1, 1} })
	for i := range 3 {
		a.numbers(func(s *api.Season, n int) {
			s.Makers[1].Rates = append(make([]int, i, 3), append([]int{n}, make([]int, 2-i)...)...)
		}, -1, api.MaxRate+1)
	}
	a.numbers(func(s *api.Season, n int) { s.Makers[1].Idle = n }, -1, api.MaxCosts+1)
	a.numbers(func(s *api.Season, n int) { s.Makers[1].Start = n }, -2, 3)
	a.things(func(s *api.Season, n int) { s.Makers[2].Oven = n }, 2)
	a.add(api.ErrArg, func(s *api.Season) { s.Makers[2].Start = 3 })
}

// turns adds the errors of the lists of changes between so many things.
func (a *adder) turns(of func(*api.Season) [][]api.Turn, count int) {
	for _, wrong := range []int{0, count - 1, count + 1} {
		a.add(api.ErrArg, func(s *api.Season) { of(s)[0] = make([]api.Turn, wrong) })
		a.add(api.ErrArg, func(s *api.Season) { of(s)[count-1] = make([]api.Turn, wrong) })
	}
	a.numbers(func(s *api.Season, n int) { of(s)[count-1][0].Minutes = n }, -1, 1441)
	a.numbers(func(s *api.Season, n int) { of(s)[count-1][0].Cost = n }, -1, api.MaxCosts+1)
	a.numbers(func(s *api.Season, n int) { of(s)[0][count-1].Minutes = n }, -1, 1441)
	a.numbers(func(s *api.Season, n int) { of(s)[0][0].Cost = n }, -1, api.MaxCosts+1)
}

// rect are changes that are free, so many lists of so many.
func rect(rows, columns int) [][]api.Turn {
	all := make([][]api.Turn, rows)
	for i := range all {
		all[i] = make([]api.Turn, columns)
	}
	return all
}

func (a *adder) orders() {
	a.add(api.ErrLimit, func(s *api.Season) { s.Orders = append(s.Orders, order(1, 1, 1, 1), order(1, 1, 1, 1)) })
	a.things(func(s *api.Season, n int) { s.Orders[1].Article = n }, -1, 3)
	a.add(api.ErrTwice, func(s *api.Season) { s.Orders[1].Article = s.Orders[0].Article })
	a.numbers(func(s *api.Season, n int) { s.Orders[1].Quantity = n }, -1, api.MaxRate+1)
	a.numbers(func(s *api.Season, n int) { s.Orders[1].Due = n }, -1, 3)
	a.numbers(func(s *api.Season, n int) { s.Orders[1].Penalty = n }, -1, api.MaxCosts+1)
}

// wrongSeasons are the errors of Check, in their order.
func wrongSeasons() []wrong {
	a := &adder{}
	a.numbers(func(s *api.Season, n int) { s.Days = n }, 0, -1, api.MaxDays+1)
	a.articles()
	a.ovens()
	a.makers()
	for _, count := range []int{0, 2, 4} {
		a.add(api.ErrArg, func(s *api.Season) { s.Jobs = rect(count, 3) })
	}
	a.turns(func(s *api.Season) [][]api.Turn { return s.Jobs }, 3)
	a.add(api.ErrLimit, func(s *api.Season) { s.Colours = never(api.MaxColours + 1) })
	a.add(api.ErrArg, func(s *api.Season) { s.Colours = rect(3, 2) })
	a.turns(func(s *api.Season) [][]api.Turn { return s.Colours }, 2)
	a.orders()
	// with many shifts everything else may still be wrong
	a.add(api.ErrScope, func(s *api.Season) {
		s.Ovens[1] = oven(0, 60000)
		for len(s.Makers) < api.MaxMakers {
			s.Makers = append(s.Makers, maker(1, 0, -1, 1, 1, 1))
		}
	})
	return a.all
}

func TestCheckErrors(t *testing.T) {
	all := wrongSeasons()
	inOrder(t, "Check, Prices, Print", all, call.checked)
	inOrder(t, "Shifts", all, call.shifts)
	inOrder(t, "Keeps", all, call.keeps)
	inOrder(t, "Pulls, Made, Lacks, Cost", all, call.counted)
	inOrder(t, "Best", all, call.best)
	inOrder(t, "Bound", all, call.bound)
	inOrder(t, "Melt", all, call.melt)
}

// TestCheckColours: without lists of colours no article has one, and that comes ahead of what is wrong with the lists.
func TestCheckColours(t *testing.T) {
	s := town()
	s.Articles[1].Colour = 2
	equal(t, "one beyond", plan.Check(s), api.ErrNone)
	s = town()
	s.Colours = nil
	equal(t, "no lists", plan.Check(s), api.ErrNone)
	s.Colours = rect(1, 2)
	equal(t, "too few", plan.Check(s), api.ErrNone)
	s.Articles[1].Colour, s.Articles[2].Colour = 0, 0
	equal(t, "too long", plan.Check(s), api.ErrArg)
	s.Articles[1].Colour, s.Colours = 6, never(api.MaxColours+1)
	equal(t, "too many", plan.Check(s), api.ErrLimit)
}

// TestCheckScope: of the shifts of a furnace there may be so many that all pairs of them are at most MaxShifts.
func TestCheckScope(t *testing.T) {
	for _, x := range []struct {
		count int
		want  api.Errno
	}{{1, api.OK}, {20, api.OK}, {54, api.OK}, {55, api.ErrScope}, {64, api.ErrScope}} {
		s := town()
		manyShifts(x.count)(&s)
		equal(t, "Check", plan.Check(s), x.want)
		all, e := plan.Shifts(s, 0)
		equal(t, "error", e, x.want)
		if e == api.OK {
			equal(t, "shifts", len(all), x.count)
		}
		// behind another furnace
		s.Ovens = append([]api.Oven{oven(0, 0)}, s.Ovens...)
		s.Makers[0].Oven, s.Makers[1].Oven = 1, 1
		equal(t, "Check of the second", plan.Check(s), x.want)
	}
}
