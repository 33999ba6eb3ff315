package plan_test

import (
	"slices"
	"testing"

	"cullet/api"
	"cullet/plan"
)

// somePlan is a plan that keeps a season, if there is one.
func somePlan(s api.Season, choose func(int) int) (p [][]int, found bool) {
	p = make([][]int, len(s.Makers))
	for oven := range s.Ovens {
		all := shiftsOf(s, oven)
		if len(all) == 0 {
			return nil, false
		}
		for range s.Days {
			shift := all[choose(len(all))]
			for i, m := range at(s, oven) {
				p[m] = append(p[m], shift[i])
			}
		}
	}
	return p, true
}

// TestNoFurnaceStands: each pull of a plan that keeps the season is from Least to Most, and Best's plan keeps it (P8.8, P0.4).
func TestNoFurnaceStands(t *testing.T) {
	r := newRand(91)
	for range 1000 {
		s := someSeason(r, 3)
		p, found := somePlan(s, r.Intn)
		if !found {
			continue
		}
		best, _, is, e := plan.Best(s)
		for _, p := range [][][]int{p, best} {
			if e != api.OK || !is {
				continue
			}
			keeps, e := plan.Keeps(s, p)
			fine(t, "keeps", keeps, e, true)
			all, e := plan.Pulls(s, p)
			equal(t, "error", e, api.OK)
			for i, days := range all {
				if slices.Min(days) < s.Ovens[i].Least || slices.Max(days) > s.Ovens[i].Most {
					t.Error(s, p, all)
				}
			}
		}
	}
}

// TestNoPlanIsCheaper: no plan that keeps the season costs less than Best's, nor than a bound, for any prices; the bound of Prices is a gap that is proved (P8.8, P0.4).
func TestNoPlanIsCheaper(t *testing.T) {
	r := newRand(92)
	count, tight := 0, 0
	for range 1000 {
		s := someSeason(r, 3)
		p, found := somePlan(s, r.Intn)
		_, least, is, e := plan.Best(s)
		if e != api.OK {
			continue
		}
		equal(t, "found", is, found)
		prices, _ := plan.Prices(s)
		proved, none, _ := plan.Bound(s, prices)
		equal(t, "none", none, !found)
		if !found {
			continue
		}
		count++
		cost, e := plan.Cost(s, p)
		equal(t, "error", e, api.OK)
		any, _, e := plan.Bound(s, somePrices(s, r.Intn))
		equal(t, "error", e, api.OK)
		if cost < least || least < any || least < proved {
			t.Error(s, cost, least, any, proved)
		}
		if least-proved <= least/10 {
			tight++
		}
	}
	if count < 300 || tight < count/2 {
		t.Error(count, tight)
	}
}

// TestMorePenalty: with a higher penalty no plan costs less, and the best one neither (P8.8).
func TestMorePenalty(t *testing.T) {
	r := newRand(93)
	more := 0
	for range 1000 {
		s := someSeason(r, 3)
		p, found := somePlan(s, r.Intn)
		if !found || len(s.Orders) == 0 {
			continue
		}
		cost, _ := plan.Cost(s, p)
		_, least, _, e := plan.Best(s)
		s.Orders[r.Intn(len(s.Orders))].Penalty += 1 + r.Intn(9)
		behind, _ := plan.Cost(s, p)
		_, leastBehind, _, _ := plan.Best(s)
		if behind < cost || e == api.OK && leastBehind < least {
			t.Error(s, p, cost, behind, least, leastBehind)
		}
		if behind > cost {
			more++
		}
	}
	if more < 100 {
		t.Error(more)
	}
}

// TestMoreQuantity: with a greater Quantity nothing lacks less (P8.8).
func TestMoreQuantity(t *testing.T) {
	r := newRand(94)
	more := 0
	for range 1000 {
		s := someSeason(r, 3)
		p, found := somePlan(s, r.Intn)
		if !found || len(s.Orders) == 0 {
			continue
		}
		before, _ := plan.Lacks(s, p)
		at := r.Intn(len(s.Orders))
		s.Orders[at].Quantity += 1 + r.Intn(9)
		behind, e := plan.Lacks(s, p)
		equal(t, "error", e, api.OK)
		for i := range before {
			if behind[i] < before[i] || i != at && behind[i] != before[i] {
				t.Error(s, p, before, behind)
			}
		}
		if behind[at] > before[at] {
			more++
		}
	}
	if more < 100 {
		t.Error(more)
	}
}

// TestOneColour: all machines of a furnace have glass of one colour, on each day of a plan that keeps the season.
func TestOneColour(t *testing.T) {
	r := newRand(95)
	for range 1000 {
		s := someSeason(r, 3)
		best, _, found, e := plan.Best(s)
		if e != api.OK || !found {
			continue
		}
		for oven := range s.Ovens {
			for day := range s.Days {
				shift := column(s, best, at(s, oven), day)
				colour := firstColour(s, shift)
				for _, article := range shift {
					if article >= 0 && s.Articles[article].Colour != colour {
						t.Error(s, best)
					}
				}
			}
		}
	}
}
