package gobs_test

import (
	"math/rand"
	"slices"
	"testing"

	"cullet/api"
	"cullet/gobs"
)

// everOf is Ever as the chapter says it, of loops of small numbers.
func everOf(l api.Loop, first map[gob]bool, limits api.Span) ([]api.Cell, int) {
	all := map[gob]bool{}
	for at, come := 0, first; ; at++ {
		grown := false
		for g := range come {
			if g.weight < limits.Low || g.weight > limits.High {
				return nil, at
			}
			grown = grown || !all[g]
			all[g] = true
		}
		if !grown {
			return cellsOf(all), -1
		}
		come = after(l, all)
	}
}

func checkEver(t *testing.T, what string, l api.Loop, from []api.Cell, limits api.Span, want []api.Cell, gobsUntil int) {
	t.Helper()
	got, at, e := gobs.Ever(l, from, limits)
	equal(t, what, e, api.OK)
	equal(t, what, at, gobsUntil)
	same(t, what, got, want)
}

// TestEver: the chapter's example, and sets that stay (P3.4).
func TestEver(t *testing.T) {
	l := example()
	one := l
	one.Tube = just(0)
	checkEver(t, "no tube", one, set(cell(0, 0, just(1000))), span(990, 1010), nil, 11)
	checkEver(t, "no tube, below", one, set(cell(0, 0, just(993))), span(990, 1010), nil, 4)
	checkEver(t, "outside at once", one, set(cell(0, 0, span(989, 1000))), span(990, 1010), nil, 0)
	checkEver(t, "above at once", one, set(cell(0, 0, span(1000, 1011))), span(990, 1010), nil, 0)
	checkEver(t, "nothing", one, nil, span(990, 1010), nil, -1)
	one.Drift = 0
	checkEver(t, "no drift", one, set(cell(0, 0, just(990), span(1005, 1010))), span(990, 1010), set(cell(0, 0, just(990), span(1005, 1010))), -1)
	turns := api.Loop{Band: span(995, 1005), Gain: just(20), Tube: span(0, 1), Error: 2, Every: 2}
	checkEver(t, "taking turns", turns, set(cell(0, 1, just(1010))), span(0, 2000), set(
		cell(0, 0, just(990)), cell(0, 1, just(1010)), cell(1, 0, just(990)), cell(1, 1, just(1010))), -1)
	checkEver(t, "taking turns, too far", turns, set(cell(0, 1, just(1010))), span(991, 1010), nil, 1)
	checkEver(t, "taking turns, too far the other way", turns, set(cell(0, 0, just(990))), span(990, 1009), nil, 1)
	wide := l
	wide.Tube = just(3)
	checkEver(t, "a long way", wide, set(cell(0, 3, just(api.MaxGob))), span(0, api.MaxGob), nil, 1)
	checkEver(t, "a longer way", wide, set(cell(0, 3, just(50000))), span(0, api.MaxGob), nil, 50001)
}

// kept is a loop that can hold its weight for ever, unless its tube is at an end.
func kept(r *rand.Rand) api.Loop {
	l := someLoop(r)
	if r.Intn(2) == 0 {
		l.Drift = 0
	}
	return l
}

// TestEverModel: Ever tells just what may ever come, or when something else may (P3.4).
func TestEverModel(t *testing.T) {
	r := rand.New(rand.NewSource(41))
	kinds := map[bool]int{}
	for range 1500 {
		l := kept(r)
		from := someGobs(r, l)
		limits := span(r.Intn(10), 30+r.Intn(30))
		want, at := everOf(l, from, limits)
		checkEver(t, "ever", l, cellsOf(from), limits, want, at)
		kinds[at > 0]++
	}
	equal(t, "both", kinds[true] > 200 && kinds[false] > 200, true)
}

// TestEverErrors: limits are weights of gobs, and not empty (P3.4).
func TestEverErrors(t *testing.T) {
	c := good()
	for what, x := range map[string]struct {
		limits api.Span
		e      api.Errno
	}{
		"widest":      {span(0, api.MaxGob), api.OK},
		"one":         {just(1000), api.OK},
		"empty":       {span(1001, 1000), api.ErrArg},
		"below":       {span(-1, 1000), api.ErrArg},
		"all below":   {span(-2, -1), api.ErrArg},
		"above":       {span(0, api.MaxGob+1), api.ErrArg},
		"all above":   {just(api.MaxGob + 1), api.ErrArg},
		"empty above": {span(api.MaxGob+1, api.MaxGob), api.ErrArg},
	} {
		all, at, e := gobs.Ever(c.l, c.set, x.limits)
		equal(t, what, e, x.e)
		if e != api.OK {
			equal(t, what, len(all) == 0 && at == 0, true)
		}
		ok, e := gobs.Proves(c.l, c.set, x.limits, c.all)
		equal(t, what+": Proves", ok, false)
		equal(t, what+": Proves", e, x.e)
		want := x.e
		if want == api.OK {
			want = api.ErrLimit
		}
		_, e = gobs.Proves(c.l, c.set, x.limits, set(cell(0, 5, singles(api.MaxPieces+1, 0, 2)...)))
		equal(t, what+": Proves, all", e, want)
	}
}

// TestEverLimit: what may have come up to a number of gobs may have MaxPieces spans in a cell, as long as it lies in limits (P3.4).
func TestEverLimit(t *testing.T) {
	wide := span(0, api.MaxGob)
	l, from := pieces(100, 100)
	l.Gain = just(4)
	all, at, e := gobs.Ever(l, from, wide)
	equal(t, "just so many", e, api.OK)
	equal(t, "just so many", at, -1)
	equal(t, "just so many", len(all[0].Weights), api.MaxPieces)
	l, from = pieces(101, 100)
	l.Gain = just(4)
	all, at, e = gobs.Ever(l, from, wide)
	equal(t, "one more", onlyError([]any{all, at, e}, api.ErrLimit), true)
	// What lies outside of limits comes first, even if it comes in too many pieces.
	all, at, e = gobs.Ever(l, set(from[0], cell(0, 6, append(singles(99, 2000, 10), just(2990))...)), span(10, 2990))
	equal(t, "in limits", onlyError([]any{all, at, e}, api.ErrLimit), true)
	checkEver(t, "out of limits at once", l, from, span(11, 2990), nil, 0)
	l.Gain = just(1000)
	from[1].Weights = slices.Insert(from[1].Weights, 0, just(1003))
	checkEver(t, "out of limits", l, from, span(10, 2990), nil, 1)
}

// TestEverTogether: what may have come up to a gob counts all together, not each gob alone (P3.4).
func TestEverTogether(t *testing.T) {
	l := still()
	l.Band, l.Every, l.Error = span(0, 1000), 2, 0
	from := set(cell(0, 5, singles(120, 1, 6)...), cell(1, 5, singles(120, 4, 6)...))
	for n := range 4 {
		_, e := gobs.Reach(l, from, n)
		equal(t, "alone", e, api.OK)
	}
	all, at, e := gobs.Ever(l, from, span(0, 1000))
	equal(t, "together", onlyError([]any{all, at, e}, api.ErrLimit), true)
	from[0].Weights, from[1].Weights = from[0].Weights[:100], from[1].Weights[:100]
	all, at, e = gobs.Ever(l, from, span(0, 1000))
	equal(t, "just so many", e, api.OK)
	equal(t, "just so many", at, -1)
	equal(t, "just so many", len(all[0].Weights)+len(all[1].Weights), 2*api.MaxPieces)
}

// covered is a loop and a set that holds it: to the position 5 come too many pieces from both sides, but it is all in the set.
func covered() (api.Loop, []api.Cell) {
	l := still()
	l.Tube = span(4, 6)
	l.Gain = just(3)
	return l, set(
		cell(0, 4, append(singles(150, 10, 5), span(900, 99999))...),
		cell(0, 5, span(0, api.MaxGob)),
		cell(0, 6, append([]api.Span{span(1, 1100)}, singles(150, 2000, 5)...)...),
	)
}

// TestCovered: only the sets that are needed count: not what comes next of all, if all holds it (P3.4).
func TestCovered(t *testing.T) {
	l, from := covered()
	all, at, e := gobs.Ever(l, from, span(0, api.MaxGob))
	equal(t, "ever", e, api.OK)
	equal(t, "ever", at, -1)
	ok, e := gobs.Proves(l, from, span(0, api.MaxGob), all)
	equal(t, "proves", e, api.OK)
	equal(t, "proves", ok, true)
	same(t, "ever", all, from)
	next, e := gobs.Next(l, from)
	equal(t, "next", onlyError([]any{next, e}, api.ErrLimit), true)
	l, from = pieces(101, 100)
	ok, e = gobs.Proves(l, nil, span(0, api.MaxGob), from)
	equal(t, "proves what lacks", e, api.OK)
	equal(t, "proves what lacks", ok, false)
}

// TestProves: a set that proves holds the first one, lies in limits, and holds what comes of it (P3.4).
func TestProves(t *testing.T) {
	l := still()
	l.Tube = span(0, 1)
	l.Gain = just(20)
	first := set(cell(0, 1, just(1010)))
	all := set(cell(0, 0, just(990)), cell(0, 1, just(1010)))
	for what, x := range map[string]struct {
		first  []api.Cell
		limits api.Span
		all    []api.Cell
		want   bool
	}{
		"proof":                 {first, span(990, 1010), all, true},
		"nothing":               {nil, span(990, 1010), nil, true},
		"nothing, with more":    {nil, span(990, 1010), all, true},
		"limits wide":           {first, span(0, 9999), all, true},
		"limits high":           {first, span(991, 1010), all, false},
		"limits low":            {first, span(990, 1009), all, false},
		"not the first":         {set(cell(0, 1, span(1009, 1010))), span(990, 1010), all, false},
		"not its place":         {set(cell(0, 0, just(1010))), span(990, 1010), all, false},
		"no place":              {first, span(990, 1010), nil, false},
		"what comes lacks":      {first, span(990, 1010), all[1:], false},
		"more, that stays":      {first, span(990, 1010), set(cell(0, 0, just(990), just(1000)), cell(0, 1, just(1010))), true},
		"more, that goes":       {first, span(980, 1010), set(cell(0, 0, span(989, 990)), cell(0, 1, just(1010))), false},
		"more, outside":         {first, span(990, 1010), set(cell(0, 0, just(990), just(1020)), cell(0, 1, just(1010))), false},
		"between two pieces":    {set(cell(0, 0, span(999, 1001))), span(990, 1010), set(cell(0, 0, just(999), just(1001))), false},
		"over two pieces":       {set(cell(0, 0, just(998), just(1000))), span(990, 1010), set(cell(0, 0, span(997, 999), span(1001, 1003))), false},
		"within a piece, twice": {set(cell(0, 0, just(998), just(1000))), span(990, 1010), set(cell(0, 0, span(997, 1003))), true},
	} {
		got, e := gobs.Proves(l, x.first, x.limits, x.all)
		equal(t, what, e, api.OK)
		equal(t, what, got, x.want)
	}
}

// TestProvesModel: Proves tells just what the chapter says (P3.4).
func TestProvesModel(t *testing.T) {
	r := rand.New(rand.NewSource(42))
	counts := map[bool]int{}
	for range 2000 {
		l := kept(r)
		first := someGobs(r, l)
		limits := span(r.Intn(10), 30+r.Intn(30))
		cells, _ := everOf(l, first, limits)
		all := gobsOf(cells)
		for range r.Intn(3) {
			g := someGob(r, l)
			if r.Intn(2) == 0 {
				all[g] = true
			} else {
				delete(all, g)
			}
		}
		want := true
		for g := range all {
			want = want && limits.Low <= g.weight && g.weight <= limits.High
		}
		for g := range first {
			want = want && all[g]
		}
		for g := range after(l, all) {
			want = want && all[g]
		}
		got, e := gobs.Proves(l, cellsOf(first), limits, cellsOf(all))
		equal(t, "proves", e, api.OK)
		equal(t, "proves", got, want)
		counts[want]++
	}
	equal(t, "both", counts[true] > 200 && counts[false] > 200, true)
}

// TestHull: all numbers of all spans count, in all cells (P3.5).
func TestHull(t *testing.T) {
	for what, x := range map[string]struct {
		set  []api.Cell
		want api.Span
		ok   bool
	}{
		"nothing":          {nil, api.Span{}, false},
		"cells only":       {set(cell(0, 0), cell(-4, 99)), api.Span{}, false},
		"one":              {set(cell(0, 0, just(7))), just(7), true},
		"zero":             {set(cell(0, 0, just(0))), just(0), true},
		"pieces":           {set(cell(0, 0, just(7), span(9, 12))), span(7, 12), true},
		"cells":            {set(cell(0, 0, span(7, 9)), cell(1, 0), cell(2, 0, span(3, 8))), span(3, 9), true},
		"any cells":        {set(cell(-1, 50, span(8, 9), span(1, 2)), cell(-1, 50, just(4))), span(1, 9), true},
		"upside down":      {set(cell(0, 0, span(9, 3))), span(3, 9), true},
		"upside down, two": {set(cell(0, 0, span(5, 6), span(9, 3))), span(3, 9), true},
		"first turned":     {set(cell(0, 0, span(9, 3), span(5, 6))), span(3, 9), true},
		"below 0":          {set(cell(0, 0, span(-9, -3))), span(-9, -3), true},
		"any size":         {set(cell(0, 0, just(1<<62), just(-1<<63))), span(-1<<63, 1<<62), true},
	} {
		got, ok := gobs.Hull(x.set)
		equal(t, what, got, x.want)
		equal(t, what, ok, x.ok)
	}
	many := set(cell(0, 0, slices.Concat(singles(500, 1, 1), singles(500, 1, 2))...))
	got, ok := gobs.Hull(many)
	equal(t, "many", got, span(1, 999))
	equal(t, "many", ok, true)
}
