package furnace_test

import (
	"math"
	"math/rand"
	"testing"

	"cullet/api"
	"cullet/furnace"
)

// rate is the wear in a minute, as the chapter says it.
func rate(table []api.WearRow, value int) int {
	for i := len(table) - 1; i >= 0; i-- {
		if table[i].From <= value {
			return table[i].Rate
		}
	}
	return 0
}

func TestWorn(t *testing.T) {
	// melt has 0, 100 and 180 at the beginning of the minutes, nose 0, 0 and 40
	plan := []api.Phase{phase(0, 2, just(1000)), phase(0, 1, just(0))}
	table := []api.WearRow{{From: 0, Rate: 1}, {From: 40, Rate: 1}, {From: 100, Rate: 10}, {From: 181, Rate: 100}}
	for zone, want := range []int{21, 3} {
		got, e := furnace.Worn(two(), spans(0, 0), plan, zone, table)
		equal(t, "error", e, api.OK)
		equal(t, "wear", got, just(want))
	}
	got, e := furnace.Worn(two(), []api.Span{span(-1, 100), just(0)}, []api.Phase{phase(0, 1, just(0))}, 0, table)
	equal(t, "error", e, api.OK)
	equal(t, "wear of a span", got, span(0, 10))
	got, e = furnace.Worn(two(), spans(0, 0), plan, 0, nil)
	equal(t, "error", e, api.OK)
	equal(t, "wear without a table", got, just(0))
	got, e = furnace.Worn(two(), spans(0, 0), nil, 0, table)
	equal(t, "error", e, api.OK)
	equal(t, "wear of no minute", got, just(0))
	got, e = furnace.Worn(two(), spans(0, 0), []api.Phase{phase(0, api.MaxMinutes, just(0))}, 0, []api.WearRow{{From: 0, Rate: api.MaxPower}})
	equal(t, "error", e, api.OK)
	equal(t, "the greatest wear", got, just(api.MaxMinutes*api.MaxPower))
}

func TestThrough(t *testing.T) {
	// at rest: 1 to 10 in each minute, whatever is charged
	f := full()
	state := []api.Span{span(-1, 100), just(0)}
	table := []api.WearRow{{From: -1, Rate: 1}, {From: 100, Rate: 10}}
	plan := []api.Phase{phase(1, 2, just(999)), phase(1, 4, just(-999))}
	for thick, want := range map[int][]int{1: {0, 0}, 2: {0, 1}, 6: {0, 5}, 7: {0, -1}, 10: {0, -1}, 11: {1, -1}, 60: {5, -1}, 61: {-1, -1}, api.MaxState: {-1, -1}} {
		may, must, e := furnace.Through(f, state, plan, 0, table, thick)
		equal(t, "error", e, api.OK)
		equal(t, "may", may, want[0])
		equal(t, "must", must, want[1])
	}
	may, must, e := furnace.Through(f, state, nil, 0, table, 1)
	equal(t, "error", e, api.OK)
	equal(t, "may of no minute", may, -1)
	equal(t, "must of no minute", must, -1)
}

// TestWearOfAll compares with the states of each minute.
func TestWearOfAll(t *testing.T) {
	r := rand.New(rand.NewSource(81))
	for range 1500 {
		f := some(r)
		state, plan, table := someSpans(r, len(f.Zones)), somePlan(r, f, 8), someTable(r)
		zone, thick := r.Intn(len(f.Zones)), 1+r.Intn(300)
		states, modes := history(f, state, plan)
		may, must, lost := -1, -1, just(0)
		for i := range modes {
			lost.Low += rate(table, states[i][zone].Low)
			lost.High += rate(table, states[i][zone].High)
			if may < 0 && lost.High >= thick {
				may = i
			}
			if must < 0 && lost.Low >= thick {
				must = i
			}
		}
		got, e := furnace.Worn(f, state, plan, zone, table)
		equal(t, "error", e, api.OK)
		equal(t, "wear", got, lost)
		gotMay, gotMust, e := furnace.Through(f, state, plan, zone, table, thick)
		equal(t, "error", e, api.OK)
		equal(t, "may", gotMay, may)
		equal(t, "must", gotMust, must)
	}
}

// wearFails tells that both functions have this error for a zone, a table and a thickness; the values of the state leave their bounds.
func wearFails(t *testing.T, zone int, table []api.WearRow, thick int, want api.Errno) {
	t.Helper()
	const most = api.MaxState
	state, plan := spans(most, most), []api.Phase{phase(1, 1, just(0), just(1), just(1))}
	wear, e := furnace.Worn(full(), state, plan, zone, table)
	may, must, g := furnace.Through(full(), state, plan, zone, table, thick)
	if all := []any{wear, e, may, must, g}; !onlyError(all, want) {
		t.Error(zone, table, thick, all)
	}
}

func TestWearErrors(t *testing.T) {
	for _, zone := range []int{-1, 2, math.MaxInt, math.MinInt} {
		wearFails(t, zone, make([]api.WearRow, api.MaxWears+1), 0, api.ErrNone)
	}
	wearFails(t, 1, make([]api.WearRow, api.MaxWears+1), 0, api.ErrLimit)
	const most = api.MaxState
	for _, table := range [][]api.WearRow{
		{{From: -most - 1}}, {{From: most + 1}}, {{From: math.MinInt}}, {{From: math.MaxInt}},
		{{Rate: -1}}, {{Rate: api.MaxPower + 1}}, {{Rate: math.MaxInt}}, {{Rate: math.MinInt}},
		{{From: 5}, {From: 5}}, {{From: 5}, {From: 4}}, {{From: most}, {From: most + 1}},
		{{From: 5, Rate: 2}, {From: 6, Rate: 1}}, {{From: 5, Rate: 2}, {From: 6, Rate: 2}, {From: 7, Rate: 1}},
	} {
		wearFails(t, 1, table, 0, api.ErrArg)
	}
	table := []api.WearRow{{From: -most}, {From: most, Rate: api.MaxPower}}
	wearFails(t, 1, table, 1, api.ErrLimit)
	wearFails(t, 1, make([]api.WearRow, 0), most, api.ErrLimit)
	for _, thick := range []int{0, -1, most + 1, math.MaxInt, math.MinInt} {
		may, must, e := furnace.Through(full(), spans(most, most), []api.Phase{phase(1, 1, just(0), just(1), just(1))}, 0, table, thick)
		if !onlyError([]any{may, must, e}, api.ErrArg) {
			t.Error(thick, may, must, e)
		}
	}
	table = nil
	for i := range api.MaxWears {
		table = append(table, api.WearRow{From: i})
	}
	_, e := furnace.Worn(full(), spans(0, 0), nil, 0, table)
	equal(t, "as many rows as may be", e, api.OK)
}
