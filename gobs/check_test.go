package gobs_test

import (
	"testing"

	"cullet/api"
	"cullet/gobs"
)

// TestCheckLoop: each number of a loop has its limits, and these belong to it (P3.1).
func TestCheckLoop(t *testing.T) {
	equal(t, "example", gobs.Check(example()), api.OK)
	equal(t, "nothing", gobs.Check(api.Loop{}), api.ErrArg)
	least := api.Loop{Every: 1}
	equal(t, "least", gobs.Check(least), api.OK)
	most := api.Loop{
		Band: just(api.MaxGob), Gain: just(api.MaxGain), Tube: just(api.MaxTube),
		Drift: api.MaxGain, Error: api.MaxGain, Every: api.MaxEvery,
	}
	equal(t, "most", gobs.Check(most), api.OK)
	for what, spoil := range map[string]func(*api.Loop){
		"band below":   func(l *api.Loop) { l.Band.Low = -1 },
		"band empty":   func(l *api.Loop) { l.Band = span(996, 995) },
		"band above":   func(l *api.Loop) { l.Band.High = api.MaxGob + 1 },
		"gain below":   func(l *api.Loop) { l.Gain.Low = -1 },
		"gain empty":   func(l *api.Loop) { l.Gain = span(4, 3) },
		"gain above":   func(l *api.Loop) { l.Gain.High = api.MaxGain + 1 },
		"tube below":   func(l *api.Loop) { l.Tube.Low = -1 },
		"tube empty":   func(l *api.Loop) { l.Tube = span(6, 5) },
		"tube above":   func(l *api.Loop) { l.Tube.High = api.MaxTube + 1 },
		"tube too far": func(l *api.Loop) { l.Tube = just(api.MaxTube + 1) },
		"drift below":  func(l *api.Loop) { l.Drift = -1 },
		"drift above":  func(l *api.Loop) { l.Drift = api.MaxGain + 1 },
		"error below":  func(l *api.Loop) { l.Error = -1 },
		"error above":  func(l *api.Loop) { l.Error = api.MaxGain + 1 },
		"never":        func(l *api.Loop) { l.Every = 0 },
		"seldom":       func(l *api.Loop) { l.Every = api.MaxEvery + 1 },
	} {
		l := example()
		spoil(&l)
		equal(t, what, gobs.Check(l), api.ErrArg)
		c := good()
		c.l = l
		// Whatever else is wrong comes behind the loop.
		c.set = set(cell(0, 5, singles(api.MaxPieces+1, 0, 2)...))
		c.all = c.set
		c.readings = make([]int, api.MaxGobs+1)
		_, e := gobs.Next(c.l, c.set)
		equal(t, what+": Next", e, api.ErrArg)
		_, e = gobs.Reach(c.l, c.set, c.gobs)
		equal(t, what+": Reach", e, api.ErrArg)
		_, e = gobs.Seen(c.l, c.set, c.readings)
		equal(t, what+": Seen", e, api.ErrArg)
		_, _, e = gobs.Ever(c.l, c.set, c.limits)
		equal(t, what+": Ever", e, api.ErrArg)
		_, e = gobs.Proves(c.l, c.set, c.limits, c.all)
		equal(t, what+": Proves", e, api.ErrArg)
	}
}

// TestWorst: a scanner is wrong by what it was, and by what it drifts until it is calibrated again (P3.1).
func TestWorst(t *testing.T) {
	for _, x := range []struct {
		s    api.Scanner
		want int
		e    api.Errno
	}{
		{api.Scanner{Acc: 2, Drift: 1, Every: 4}, 6, api.OK},
		{api.Scanner{}, 0, api.OK},
		{api.Scanner{Acc: 3, Drift: 9}, 3, api.OK},
		{api.Scanner{Acc: 1000, Drift: 1000, Every: 20}, 21000, api.OK},
		{api.Scanner{Acc: -1}, 0, api.ErrArg},
		{api.Scanner{Acc: 1001}, 0, api.ErrArg},
		{api.Scanner{Acc: 1, Drift: -1, Every: 1}, 0, api.ErrArg},
		{api.Scanner{Acc: 1, Drift: 1001, Every: 1}, 0, api.ErrArg},
		{api.Scanner{Acc: 1, Drift: 1, Every: -1}, 0, api.ErrArg},
		{api.Scanner{Acc: 1, Drift: 1, Every: 21}, 0, api.ErrArg},
	} {
		got, e := gobs.Worst(x.s)
		if got != x.want || e != x.e {
			t.Errorf("%v: got %d, %v", x.s, got, e)
		}
	}
}

// cellsErrors are lists of cells that may not be, and some that may.
func cellsErrors() map[string]struct {
	cells []api.Cell
	e     api.Errno
} {
	type wrong = struct {
		cells []api.Cell
		e     api.Errno
	}
	many := singles(api.MaxPieces+1, 0, 2)
	return map[string]wrong{
		"none":             {nil, api.OK},
		"empty":            {set(), api.OK},
		"most pieces":      {set(cell(0, 5, many[1:]...)), api.OK},
		"ends":             {set(cell(0, 0, just(-api.MaxGob+1)), cell(0, 10, just(2*api.MaxGob-1))), api.OK},
		"last phase":       {set(cell(0, 9, just(1)), cell(1, 2, just(1))), api.OK},
		"gap of one":       {set(cell(0, 5, span(1, 2), span(4, 5))), api.OK},
		"too many":         {set(cell(0, 5, many...)), api.ErrLimit},
		"too many, though": {set(cell(-1, 99), cell(0, 5, many...)), api.ErrLimit},
		"phase below":      {set(cell(-1, 5, just(1))), api.ErrArg},
		"phase above":      {set(cell(2, 5, just(1))), api.ErrArg},
		"tube below":       {set(cell(0, -1, just(1))), api.ErrArg},
		"tube above":       {set(cell(0, 11, just(1))), api.ErrArg},
		"twice":            {set(cell(0, 5, just(1)), cell(0, 5, just(3))), api.ErrArg},
		"tube falls":       {set(cell(0, 5, just(1)), cell(0, 4, just(3))), api.ErrArg},
		"phase falls":      {set(cell(1, 4, just(1)), cell(0, 5, just(3))), api.ErrArg},
		"no spans":         {set(cell(0, 5)), api.ErrArg},
		"empty span":       {set(cell(0, 5, span(2, 1))), api.ErrArg},
		"span below":       {set(cell(0, 5, span(-api.MaxGob-1, 0))), api.ErrArg},
		"span above":       {set(cell(0, 5, span(0, 2*api.MaxGob+1))), api.ErrArg},
		"neighbours":       {set(cell(0, 5, span(1, 2), span(3, 4))), api.ErrArg},
		"overlap":          {set(cell(0, 5, span(1, 9), span(3, 20))), api.ErrArg},
		"spans fall":       {set(cell(0, 5, span(10, 20), span(1, 2))), api.ErrArg},
		"second cell":      {set(cell(0, 5, just(1)), cell(0, 6)), api.ErrArg},
	}
}

// TestCells: the error of cells comes behind that of the loop, and ahead of all others (P3.2, P3.3, P3.4).
func TestCells(t *testing.T) {
	l := example()
	l.Every = 2
	l.Error = api.MaxGain
	wide := span(0, api.MaxGob)
	for what, x := range cellsErrors() {
		_, e := gobs.Next(l, x.cells)
		equal(t, what+": Next", e, x.e)
		_, e = gobs.Reach(l, x.cells, 0)
		equal(t, what+": Reach", e, x.e)
		_, e = gobs.Seen(l, x.cells, nil)
		equal(t, what+": Seen", e, x.e)
		_, _, e = gobs.Ever(l, x.cells, wide)
		equal(t, what+": Ever", e, x.e)
		_, e = gobs.Proves(l, x.cells, wide, nil)
		equal(t, what+": Proves", e, x.e)
		_, e = gobs.Proves(l, nil, wide, x.cells)
		equal(t, what+": Proves, all", e, x.e)
		if x.e == api.OK {
			continue
		}
		_, e = gobs.Reach(l, x.cells, -1)
		equal(t, what+": Reach, gobs", e, x.e)
		_, e = gobs.Seen(l, x.cells, append(make([]int, api.MaxGobs), api.MaxGob*9))
		equal(t, what+": Seen, readings", e, x.e)
		_, _, e = gobs.Ever(l, x.cells, span(2, 1))
		equal(t, what+": Ever, limits", e, x.e)
		_, e = gobs.Proves(l, x.cells, span(2, 1), nil)
		equal(t, what+": Proves, limits", e, x.e)
		_, e = gobs.Proves(l, nil, span(2, 1), x.cells)
		equal(t, what+": Proves, limits ahead of all", e, api.ErrArg)
	}
}
