package furnace_test

import (
	"math"
	"testing"

	"cullet/api"
	"cullet/furnace"
)

func TestGain(t *testing.T) {
	const most = api.MaxPower
	for _, x := range []struct {
		hold              int
		power, loss, want api.Span
	}{
		{100, just(10), span(4, 6), span(20, 30)},
		{100, span(4, 6), just(10), span(-30, -20)},
		{3, just(1), just(0), span(166, 167)},
		{3, just(0), just(1), span(-167, -166)},
		{1000, span(0, 3), span(0, 3), span(-2, 2)},
		{api.MaxHold, just(1), just(0), span(0, 1)},
		{1, span(0, most), span(0, most), span(-500*most, 500*most)},
		{1, just(most), just(most), just(0)},
	} {
		got, e := furnace.Gain(x.hold, x.power, x.loss)
		equal(t, "error", e, api.OK)
		equal(t, "gain", got, x.want)
	}
}

func TestGainErrors(t *testing.T) {
	const most = api.MaxPower
	wrong := []api.Span{span(1, 0), span(-1, 0), span(0, most+1), just(-1), just(most + 1), span(math.MinInt, math.MaxInt), span(math.MaxInt, math.MinInt)}
	for _, hold := range []int{0, -1, api.MaxHold + 1, math.MaxInt, math.MinInt} {
		got, e := furnace.Gain(hold, just(1), just(1))
		if !onlyError([]any{got, e}, api.ErrArg) {
			t.Error(hold, got, e)
		}
	}
	for _, s := range wrong {
		power, e := furnace.Gain(1, s, just(1))
		loss, g := furnace.Gain(1, just(1), s)
		if !onlyError([]any{power, e, loss, g}, api.ErrArg) {
			t.Error(s, power, e, loss, g)
		}
	}
}

func TestReverse(t *testing.T) {
	first, second := phase(5, 20, span(1, 2), just(3)), phase(-7, 10, span(9, 8))
	for minutes, want := range map[int][]int{0: {}, 1: {1}, 20: {20}, 21: {20, 1}, 30: {20, 10}, 31: {20, 10, 1}, 59: {20, 10, 20, 9}, 60: {20, 10, 20, 10}} {
		got, e := furnace.Reverse(first, second, minutes)
		equal(t, "error", e, api.OK)
		equal(t, "phases", len(got), len(want))
		for i, p := range got {
			q := first
			if i%2 == 1 {
				q = second
			}
			q.Minutes = want[i]
			equal(t, "phase", p, q)
		}
	}
	got, e := furnace.Reverse(phase(0, 2, just(0)), phase(1, 1, just(0)), 4)
	equal(t, "error", e, api.OK)
	equal(t, "short phases", got, []api.Phase{phase(0, 2, just(0)), phase(1, 1, just(0)), phase(0, 1, just(0))})
	got, e = furnace.Reverse(phase(0, api.MaxMinutes, just(0)), phase(0, api.MaxMinutes, just(0)), api.MaxMinutes)
	equal(t, "error", e, api.OK)
	equal(t, "one phase", got, []api.Phase{phase(0, api.MaxMinutes, just(0))})
}

func TestReverseErrors(t *testing.T) {
	good := phase(0, 1, just(0))
	for _, minutes := range []int{0, -1, api.MaxMinutes + 1, math.MaxInt, math.MinInt} {
		wrong := phase(0, minutes, just(0))
		first, e := furnace.Reverse(wrong, good, 1)
		second, g := furnace.Reverse(good, wrong, 0)
		if !onlyError([]any{first, e, second, g}, api.ErrArg) {
			t.Error(minutes, first, e, second, g)
		}
		if minutes == 0 {
			continue
		}
		all, e := furnace.Reverse(good, good, minutes)
		if !onlyError([]any{all, e}, api.ErrArg) {
			t.Error(minutes, all, e)
		}
	}
	// 1 and 3 minutes by turns: 200 phases last 400 minutes
	other := phase(0, 3, just(0))
	for minutes, want := range map[int]int{397: 199, 398: 200, 400: 200} {
		plan, e := furnace.Reverse(good, other, minutes)
		equal(t, "error", e, api.OK)
		equal(t, "phases", len(plan), want)
	}
	for _, minutes := range []int{401, api.MaxMinutes} {
		plan, e := furnace.Reverse(good, other, minutes)
		if !onlyError([]any{plan, e}, api.ErrLimit) {
			t.Error(minutes, plan, e)
		}
	}
}
