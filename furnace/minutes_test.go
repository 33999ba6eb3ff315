package furnace_test

import (
	"math"
	"math/rand"
	"testing"

	"cullet/api"
	"cullet/furnace"
)

func TestOut(t *testing.T) {
	got, e := furnace.Out(two(), 0, []api.Span{just(7), span(-3, 5)})
	equal(t, "error", e, api.OK)
	equal(t, "value", got, span(-3, 5))
	f := two() // 10 from nose and 5 from melt, -5/15 to 55/15
	f.Streams = append(f.Streams, api.Stream{From: 0, To: -1, Rates: []int{5}}, api.Stream{From: -1, To: 0, Rates: []int{5}})
	got, e = furnace.Out(f, 0, []api.Span{span(-1, 1), span(0, 5)})
	equal(t, "error", e, api.OK)
	equal(t, "value of two streams", got, span(-1, 4))
	got, e = furnace.Out(f, 0, []api.Span{span(1, 1), span(-1, -1)})
	equal(t, "error", e, api.OK)
	equal(t, "value between whole numbers", got, span(-1, 0))
	got, e = furnace.Out(full(), 1, spans(1, 2))
	if !onlyError([]any{got, e}, api.ErrState) {
		t.Error("nothing is pulled:", got, e)
	}
}

func TestRun(t *testing.T) {
	for minutes, want := range [][]api.Span{spans(0, 0), spans(100, 0), spans(180, 40), {just(248), just(96)}} {
		got, e := furnace.Run(two(), spans(0, 0), []api.Phase{phase(0, minutes, just(1000))})
		equal(t, "error", e, api.OK)
		same(t, "state", got, want)
	}
	got, e := furnace.Run(two(), spans(3, 4), nil)
	equal(t, "error", e, api.OK)
	same(t, "state without a plan", got, spans(3, 4))
	// 0.9 of melt behind, 0.1 of what is charged; 0.6 of nose, 0.4 of melt; each end is rounded on its own, then gains come
	got, e = furnace.Run(two(), []api.Span{span(-1, 1), span(2, 3)}, []api.Phase{phase(0, 1, span(-5, 5), span(-100, 7), just(1000))})
	equal(t, "error", e, api.OK)
	same(t, "state behind gains", got, []api.Span{span(-102, 9), span(1000, 1003)})
	// nothing flows: only gains come
	got, e = furnace.Run(full(), []api.Span{span(-1, 1), span(2, 3)}, []api.Phase{phase(1, 5, just(1000), span(-2, -1), just(3))})
	equal(t, "error", e, api.OK)
	same(t, "state of a furnace at rest", got, []api.Span{span(-11, -4), span(17, 18)})
	// all of the nose's glass goes
	got, e = furnace.Run(full(), spans(7, 100), []api.Phase{phase(2, 1, just(9))})
	equal(t, "error", e, api.OK)
	same(t, "state of zones that all flows through", got, []api.Span{just(8), just(7)})
}

func TestOuts(t *testing.T) {
	got, e := furnace.Outs(two(), spans(0, 0), []api.Phase{phase(0, 2, just(1000)), phase(0, 1, just(1000))})
	equal(t, "error", e, api.OK)
	same(t, "values", got, spans(0, 0, 40))
	for _, plan := range [][]api.Phase{nil, {}, {phase(0, 0, just(7)), phase(2, 0, just(7))}, {phase(1, 0, just(7))}} {
		got, e = furnace.Outs(full(), spans(0, 0), plan)
		equal(t, "error", e, api.OK)
		same(t, "no minutes", got, nil)
	}
}

// TestBounds: a state may reach the ends of what values may be, and no more, behind any minute of a plan.
func TestBounds(t *testing.T) {
	const most = api.MaxState
	rise := phase(0, 1, just(0), just(0), span(0, 1))
	fall := phase(0, 1, just(0), just(0), span(-1, 0))
	for _, x := range []struct {
		nose api.Span
		plan []api.Phase
		want api.Errno
	}{
		{span(0, most-1), []api.Phase{rise}, api.OK},
		{span(0, most), []api.Phase{rise}, api.ErrLimit},
		{span(1-most, 0), []api.Phase{fall}, api.OK},
		{span(-most, 0), []api.Phase{fall}, api.ErrLimit},
		{span(0, most), []api.Phase{fall, rise, fall}, api.ErrLimit},
		{span(0, most), []api.Phase{phase(0, 0, just(0), just(0), just(most)), fall}, api.OK},
		{just(most), []api.Phase{phase(0, 1, just(0), just(0), just(-most)), phase(0, 1, just(0), just(0), just(most))}, api.OK},
		{just(most), []api.Phase{phase(0, 1, just(0), just(0), just(most)), phase(0, 1, just(0), just(0), just(-most))}, api.ErrLimit},
		{just(0), []api.Phase{phase(0, 1, just(0), just(most), just(-most)), phase(0, 1, just(0), just(most), just(0))}, api.ErrLimit},
	} {
		f := two() // nothing flows but through melt
		f.Streams = []api.Stream{{From: -1, To: 0, Rates: []int{10}}, {From: 0, To: -1, Rates: []int{10}}}
		c := call{f: f, state: []api.Span{just(0), x.nose}, plan: x.plan, thick: 1}
		_, e := furnace.Run(c.f, c.state, c.plan)
		equal(t, "error", e, x.want)
		if got := c.ofPlan(); x.want != api.OK && !onlyError(got, x.want) {
			t.Error(x, got)
		}
	}
}

// TestNothingPulled: ErrState comes behind the errors of a plan and of a target, and before ErrLimit.
func TestNothingPulled(t *testing.T) {
	const most = api.MaxState
	state := spans(most, most)
	plan := []api.Phase{phase(0, 1, just(0), just(most), just(most)), phase(1, 1, just(0))}
	outs, e := furnace.Outs(full(), state, plan)
	may, must, g := furnace.First(full(), state, plan, just(0))
	if all := []any{outs, e, may, must, g}; !onlyError(all, api.ErrState) {
		t.Error(all)
	}
	_, e = furnace.Run(full(), state, plan)
	equal(t, "Run does not ask for it", e, api.ErrLimit)
	for _, target := range []api.Span{span(1, 0), span(-most-1, 0), span(0, most+1), span(math.MinInt, math.MaxInt)} {
		may, must, e := furnace.First(full(), state, plan, target)
		if !onlyError([]any{may, must, e}, api.ErrArg) {
			t.Error(target, may, must, e)
		}
	}
	plan[1].Minutes = 0
	outs, e = furnace.Outs(full(), state, plan)
	may, must, g = furnace.First(full(), state, plan, just(0))
	if all := []any{outs, e, may, must, g}; !onlyError(all, api.ErrLimit) {
		t.Error(all)
	}
	plan[0].Gains = nil
	_, e = furnace.Outs(full(), state, plan)
	equal(t, "a phase without minutes", e, api.OK)
}

// TestRunOfAll compares with the chapter's words, minute by minute.
func TestRunOfAll(t *testing.T) {
	r := rand.New(rand.NewSource(71))
	minutes := 0
	for range 2000 {
		f := some(r)
		state, plan := someSpans(r, len(f.Zones)), somePlan(r, f, 8)
		states, _ := history(f, state, plan)
		got, e := furnace.Run(f, state, plan)
		equal(t, "error", e, api.OK)
		same(t, "state", got, states[len(states)-1])

		plan = pulling(f, plan)
		states, modes := history(f, state, plan)
		var want []api.Span
		for i, mode := range modes {
			want = append(want, pulled(f, mode, states[i]))
			out, e := furnace.Out(f, mode, states[i])
			equal(t, "error", e, api.OK)
			equal(t, "out", out, want[i])
		}
		outs, e := furnace.Outs(f, state, plan)
		equal(t, "error", e, api.OK)
		same(t, "outs", outs, want)
		minutes += len(outs)
	}
	if minutes < 2000 {
		t.Error("too little is pulled:", minutes)
	}
}

func TestFirst(t *testing.T) {
	plan := []api.Phase{phase(0, 3, just(1000))}
	for _, x := range []struct {
		target    api.Span
		may, must int
	}{
		{span(30, 1000), 2, 2}, {span(40, 40), 2, 2}, {span(0, 1000), 0, 0}, {span(-9, 0), 0, -1}, {span(1, 39), -1, -1}, {span(41, 99), -1, -1}, {span(-5, -1), -1, -1},
	} {
		may, must, e := furnace.First(two(), spans(0, 0), plan, x.target)
		equal(t, "error", e, api.OK)
		equal(t, "may", may, x.may)
		equal(t, "must", must, x.must)
	}
	// there, away, and there again: the last time counts
	plan = []api.Phase{phase(2, 2, just(0)), phase(2, 2, just(1000)), phase(2, 9, just(0))}
	may, must, e := furnace.First(full(), spans(0, 0), plan, span(0, 300))
	equal(t, "error", e, api.OK)
	equal(t, "may", may, 0)
	equal(t, "must", must, 7) // 0 0 0 0 500 750 375 188 ..
	may, must, e = furnace.First(full(), spans(0, 0), nil, span(0, 300))
	equal(t, "error", e, api.OK)
	equal(t, "may of no minute", may, -1)
	equal(t, "must of no minute", must, -1)
}

// TestFirstOfAll compares with each minute's span and all behind it.
func TestFirstOfAll(t *testing.T) {
	r := rand.New(rand.NewSource(72))
	count := map[string]int{}
	for range 3000 {
		f := some(r)
		state, plan := someSpans(r, len(f.Zones)), pulling(f, somePlan(r, f, 6))
		if r.Intn(2) == 0 { // so that it comes to rest
			for i := range plan {
				plan[i].Charge, plan[i].Gains = just(0), nil
			}
		}
		outs, _ := furnace.Outs(f, state, plan)
		target := span(-r.Intn(300), r.Intn(300))
		may, must := -1, -1
		for i := len(outs) - 1; i >= 0; i-- {
			all := true
			for _, s := range outs[i:] {
				all = all && s.Low >= target.Low && s.High <= target.High
			}
			if all {
				must = i
			}
			if max(outs[i].Low, target.Low) <= min(outs[i].High, target.High) {
				may = i
			}
		}
		gotMay, gotMust, e := furnace.First(f, state, plan, target)
		equal(t, "error", e, api.OK)
		equal(t, "may", gotMay, may)
		equal(t, "must", gotMust, must)
		switch {
		case must > may:
			count["later"]++
		case must >= 0:
			count["at once"]++
		case may >= 0:
			count["perhaps"]++
		default:
			count["never"]++
		}
	}
	for _, what := range []string{"later", "at once", "perhaps", "never"} {
		if count[what] < 100 {
			t.Error("the plans are too much alike:", count)
		}
	}
}

func TestSpectrum(t *testing.T) {
	// melt 100000, 90000 * .. as in the chapter's example, a thousand times as great
	got, e := furnace.Spectrum(two(), 0, 4)
	equal(t, "error", e, api.OK)
	same(t, "spectrum", got, spans(0, 0, 40000, 56000))
	for _, minutes := range []int{0, 1} {
		got, e = furnace.Spectrum(two(), 0, minutes)
		equal(t, "error", e, api.OK)
		same(t, "spectrum", got, make([]api.Span, minutes))
	}
	for _, minutes := range []int{0, 1, api.MaxMinutes} {
		got, e = furnace.Spectrum(full(), 1, minutes)
		if !onlyError([]any{got, e}, api.ErrState) {
			t.Error("nothing is pulled:", got, e)
		}
	}
	got, e = furnace.Spectrum(two(), 0, api.MaxMinutes)
	equal(t, "error", e, api.OK)
	equal(t, "minutes", len(got), api.MaxMinutes)
}

// TestSpectrumOfAll compares with the plan that the chapter names; what is charged is not pulled more than once.
func TestSpectrumOfAll(t *testing.T) {
	r := rand.New(rand.NewSource(73))
	for range 500 {
		f := some(r)
		mode, minutes := r.Intn(len(f.Modes)), 1+r.Intn(20)
		if n, _ := furnace.Pull(f, mode); n == 0 {
			continue
		}
		plan := []api.Phase{phase(mode, 1, just(1000000)), phase(mode, minutes-1, just(0))}
		want, _ := furnace.Outs(f, make([]api.Span, len(f.Zones)), plan)
		got, e := furnace.Spectrum(f, mode, minutes)
		equal(t, "error", e, api.OK)
		same(t, "spectrum", got, want)
		sum := 0
		for _, s := range got {
			sum += s.Low
		}
		if sum > 1000000 {
			t.Fatal(f, mode, got)
		}
	}
}
