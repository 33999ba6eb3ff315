package gobs_test

import (
	"math/rand"
	"slices"
	"testing"

	"cullet/api"
	"cullet/gobs"
)

func checkNext(t *testing.T, what string, l api.Loop, from, want []api.Cell) {
	t.Helper()
	got, e := gobs.Next(l, from)
	equal(t, what, e, api.OK)
	same(t, what, got, want)
}

// TestNext: the chapter's examples, the ends of the band, and those of the tube (P3.2).
func TestNext(t *testing.T) {
	l := example()
	checkNext(t, "in the band", l, set(cell(0, 5, just(1000))), set(cell(0, 5, span(999, 1001))))
	checkNext(t, "may read above", l, set(cell(0, 5, just(1004))), set(cell(0, 4, span(999, 1002)), cell(0, 5, span(1003, 1005))))
	checkNext(t, "no tube below", l, set(cell(0, 0, just(1010))), set(cell(0, 0, span(1009, 1011))))
	checkNext(t, "just not above", l, set(cell(0, 5, just(1003))), set(cell(0, 5, span(1002, 1004))))
	checkNext(t, "last that stays", l, set(cell(0, 5, just(1007))), set(cell(0, 4, span(1002, 1005)), cell(0, 5, span(1006, 1008))))
	checkNext(t, "surely above", l, set(cell(0, 5, just(1008))), set(cell(0, 4, span(1003, 1006))))
	checkNext(t, "just not below", l, set(cell(0, 5, just(997))), set(cell(0, 5, span(996, 998))))
	checkNext(t, "may read below", l, set(cell(0, 5, just(996))), set(cell(0, 5, span(995, 997)), cell(0, 6, span(998, 1001))))
	checkNext(t, "surely below", l, set(cell(0, 5, just(992))), set(cell(0, 6, span(994, 997))))
	checkNext(t, "no tube above", l, set(cell(0, 10, just(992))), set(cell(0, 10, span(991, 993))))
	checkNext(t, "below at the bottom", l, set(cell(0, 0, just(992))), set(cell(0, 1, span(994, 997))))
	checkNext(t, "above at the top", l, set(cell(0, 10, just(1008))), set(cell(0, 9, span(1003, 1006))))
	checkNext(t, "nothing", l, nil, nil)
	checkNext(t, "one cell of two ways", l, set(cell(0, 4, just(1000)), cell(0, 5, just(1008))), set(cell(0, 4, span(999, 1001), span(1003, 1006))))
	checkNext(t, "joined", l, set(cell(0, 4, just(1001)), cell(0, 5, just(1008))), set(cell(0, 4, span(1000, 1006))))
	l.Every = 3
	checkNext(t, "no decision", l, set(cell(1, 5, just(1100))), set(cell(2, 5, span(1099, 1101))))
	checkNext(t, "the last phase", l, set(cell(2, 5, just(1100))), set(cell(0, 5, span(1099, 1101))))
	checkNext(t, "decision", l, set(cell(0, 5, just(1100))), set(cell(1, 4, span(1095, 1098))))
	l = api.Loop{Every: 1}
	checkNext(t, "nothing moves", l, set(cell(0, 0, just(7))), set(cell(0, 0, just(7))))
}

// TestNextModel: Next tells just what the chapter lets come (P3.2).
func TestNextModel(t *testing.T) {
	r := rand.New(rand.NewSource(31))
	for range 2000 {
		l := someLoop(r)
		from := someGobs(r, l)
		checkNext(t, "next", l, cellsOf(from), cellsOf(after(l, from)))
	}
}

// TestReach: as many steps as gobs (P3.2).
func TestReach(t *testing.T) {
	from := set(cell(0, 5, just(1000)))
	got, e := gobs.Reach(example(), from, 2)
	equal(t, "two gobs", e, api.OK)
	same(t, "two gobs", got, set(cell(0, 5, span(998, 1002))))
	r := rand.New(rand.NewSource(32))
	for range 300 {
		l := someLoop(r)
		all := someGobs(r, l)
		first := cellsOf(all)
		for n := range 6 {
			got, e := gobs.Reach(l, first, n)
			equal(t, "reach", e, api.OK)
			same(t, "reach", got, cellsOf(all))
			all = after(l, all)
		}
	}
	for n, want := range map[int]api.Errno{-1: api.ErrArg, 0: api.OK, api.MaxGobs: api.OK, api.MaxGobs + 1: api.ErrArg} {
		_, e := gobs.Reach(example(), from, n)
		equal(t, "gobs", e, want)
		_, e = gobs.Reach(example(), nil, n)
		equal(t, "gobs of nothing", e, want)
	}
}

// still is a loop in which nothing drifts, with as many positions as in the example.
func still() api.Loop {
	l := example()
	l.Drift = 0
	return l
}

// pieces is a set whose weights stay at the position 5, or come down to it, in so many pieces together.
func pieces(stay, down int) (api.Loop, []api.Cell) {
	l := still()
	l.Band = span(0, 1000)
	l.Tube.Low = 5
	return l, set(cell(0, 5, singles(stay, 10, 3)...), cell(0, 6, singles(down, 2000, 10)...))
}

// TestReachPieces: a cell may have MaxPieces spans behind each gob, and no more (P3.2).
func TestReachPieces(t *testing.T) {
	l, from := pieces(100, 100)
	l.Gain = just(4)
	got, e := gobs.Next(l, from)
	equal(t, "just so many", e, api.OK)
	equal(t, "just so many", len(got), 1)
	equal(t, "just so many", len(got[0].Weights), api.MaxPieces)
	l, from = pieces(101, 100)
	got, e = gobs.Next(l, from)
	equal(t, "one more", onlyError([]any{got, e}, api.ErrLimit), true)
	_, e = gobs.Reach(l, from, 0)
	equal(t, "not yet", e, api.OK)
	// Behind the second gob the pieces are joined again: that does not help.
	l.Drift = 1
	from = set(cell(0, 5, singles(120, 0, 5)...), cell(0, 6, singles(120, 2000, 5)...))
	l.Gain = just(10)
	equal(t, "pieces of the second gob", len(cellsOf(after(l, after(l, gobsOf(from))))[0].Weights) < 100, true)
	for n, want := range []api.Errno{api.OK, api.ErrLimit, api.ErrLimit} {
		_, e = gobs.Reach(l, from, n)
		equal(t, "joined later", e, want)
	}
	// Pieces that become one are not too many.
	l, from = pieces(150, 150)
	l.Drift = 2
	_, e = gobs.Next(l, from)
	equal(t, "joined at once", e, api.OK)
}

// TestReachFar: a weight may be from -MaxGob to 2 * MaxGob behind each gob (P3.2).
func TestReachFar(t *testing.T) {
	l := still()
	l.Tube = just(5)
	for _, w := range []int{-api.MaxGob, 2 * api.MaxGob} {
		from := set(cell(0, 5, just(w)))
		got, e := gobs.Reach(l, from, api.MaxGobs)
		equal(t, "at the end", e, api.OK)
		same(t, "at the end", got, from)
		far := l
		far.Drift = 1
		next, e := gobs.Next(far, from)
		equal(t, "behind the end", onlyError([]any{next, e}, api.ErrLimit), true)
	}
	far := l
	far.Drift = 7
	for n, want := range map[int]api.Errno{10: api.OK, 11: api.ErrLimit, 12: api.ErrLimit} {
		_, e := gobs.Reach(far, set(cell(0, 5, just(2*api.MaxGob-70))), n)
		equal(t, "above", e, want)
		_, e = gobs.Reach(far, set(cell(0, 5, just(70-api.MaxGob))), n)
		equal(t, "below", e, want)
	}
}

func checkSeen(t *testing.T, what string, l api.Loop, from, want []api.Cell, readings ...int) {
	t.Helper()
	got, e := gobs.Seen(l, from, readings)
	equal(t, what, e, api.OK)
	same(t, what, got, want)
}

// TestSeen: a reading narrows, and decides (P3.3).
func TestSeen(t *testing.T) {
	l := example()
	wide := set(cell(0, 5, span(1000, 1010)))
	checkSeen(t, "example", l, wide, set(cell(0, 4, span(1001, 1008))), 1008)
	checkSeen(t, "no reading", l, wide, wide)
	checkSeen(t, "nothing, no reading", l, nil, nil)
	checkSeen(t, "at the band's end", l, wide, set(cell(0, 5, span(1002, 1008))), 1005)
	checkSeen(t, "just above", l, wide, set(cell(0, 4, span(999, 1006))), 1006)
	checkSeen(t, "below", l, set(cell(0, 5, span(990, 1010))), set(cell(0, 6, span(994, 1001))), 994)
	checkSeen(t, "two readings", l, wide, set(cell(0, 4, span(1000, 1002))), 1008, 999)
	l.Every = 2
	checkSeen(t, "the second gob decides nothing", l, wide, set(cell(0, 5, span(1006, 1008))), 1004, 1009)
	checkSeen(t, "a phase without decision", l, set(cell(1, 5, span(1000, 1010))), set(cell(0, 5, span(1005, 1011))), 1008)
	checkSeen(t, "end of the tube", l, set(cell(0, 0, span(1000, 1010))), set(cell(1, 0, span(1005, 1011))), 1008)
}

// TestSeenModel: Seen tells just what the chapter lets come of gobs that were read so, or clashes at the first one that cannot be (P3.3).
func TestSeenModel(t *testing.T) {
	r := rand.New(rand.NewSource(33))
	clashes := 0
	for range 2000 {
		l := someLoop(r)
		all := someGobs(r, l)
		first := cellsOf(all)
		var readings []int
		want := api.OK
		for range r.Intn(6) {
			n := someGob(r, l).weight
			for g := range all {
				if r.Intn(8) > 0 {
					n = max(n, g.weight) // most readings are such as may come
				}
			}
			readings = append(readings, n)
			all = after(l, all, n)
			if len(all) == 0 {
				want = api.ErrClash
			}
		}
		got, e := gobs.Seen(l, first, readings)
		equal(t, "error", e, want)
		if want == api.ErrClash {
			clashes++
			equal(t, "clash", len(got), 0)
			continue
		}
		same(t, "seen", got, cellsOf(all))
	}
	equal(t, "both", clashes > 200 && clashes < 1800, true)
}

// TestSeenErrors: the order of what goes wrong with readings (P3.3).
func TestSeenErrors(t *testing.T) {
	l := still()
	from := set(cell(0, 5, just(1000)))
	many := slices.Repeat([]int{1000}, api.MaxGobs+1)
	for what, x := range map[string]struct {
		readings []int
		e        api.Errno
	}{
		"most readings":     {many[1:], api.OK},
		"too many":          {many, api.ErrLimit},
		"too many and far":  {append(slices.Clone(many), 2*api.MaxGob+1), api.ErrLimit},
		"far above":         {[]int{1000, 2*api.MaxGob + 1}, api.ErrArg},
		"far below":         {[]int{-api.MaxGob - 1}, api.ErrArg},
		"far behind clash":  {[]int{1003, 2*api.MaxGob + 1}, api.ErrArg},
		"at the end, clash": {[]int{2 * api.MaxGob}, api.ErrClash},
		"at the other end":  {[]int{-api.MaxGob}, api.ErrClash},
		"first":             {[]int{997}, api.ErrClash},
		"last":              {[]int{1000, 1000, 1003}, api.ErrClash},
		"least":             {[]int{998}, api.OK},
		"greatest":          {[]int{1002}, api.OK},
	} {
		got, e := gobs.Seen(l, from, x.readings)
		equal(t, what, e, x.e)
		if e != api.OK {
			equal(t, what, len(got), 0)
		}
	}
	_, e := gobs.Seen(l, nil, []int{1000})
	equal(t, "nothing comes of nothing", e, api.ErrClash)
}

// TestSeenLimit: of one gob the clash comes first, otherwise whichever reading comes first (P3.3).
func TestSeenLimit(t *testing.T) {
	l := still()
	l.Drift = 1
	l.Tube = just(5)
	end := 2 * api.MaxGob
	from := set(cell(0, 5, span(end-10, end)))
	for what, x := range map[string]struct {
		readings []int
		e        api.Errno
	}{
		"beyond":             {[]int{end}, api.ErrLimit},
		"clash":              {[]int{end - 13}, api.ErrClash},
		"beyond, then clash": {[]int{end, 0}, api.ErrLimit},
		"clash, then beyond": {[]int{0, end}, api.ErrClash},
		"narrowed":           {[]int{end - 3}, api.OK},
		"later":              {[]int{end - 3, end - 2}, api.ErrLimit},
		"later, clash":       {[]int{end - 4, end - 12}, api.ErrClash},
	} {
		got, e := gobs.Seen(l, from, x.readings)
		equal(t, what, e, x.e)
		if e != api.OK {
			equal(t, what, len(got), 0)
		}
	}
	// Pieces count too: behind a reading above the band all go down, behind one in it all stay.
	l, _ = pieces(0, 0)
	l.Error = api.MaxGain
	two := set(cell(0, 5, singles(100, 1001, 4)...), cell(0, 6, singles(100, 1403, 4)...), cell(0, 7, singles(101, 1003, 4)...))
	_, e := gobs.Seen(l, two, []int{1500})
	equal(t, "all go down", e, api.OK)
	l.Tube.Low = 6
	both := set(cell(0, 6, singles(100, 1001, 4)...), cell(0, 7, singles(101, 1406, 4)...))
	l.Gain = just(3)
	got, e := gobs.Seen(l, both, []int{1500})
	equal(t, "two ways to one place", onlyError([]any{got, e}, api.ErrLimit), true)
	l.Gain = just(1)
	both[1].Weights = both[1].Weights[:100]
	got, e = gobs.Seen(l, both, []int{1500})
	equal(t, "just so many", e, api.OK)
	equal(t, "just so many", len(got[0].Weights), api.MaxPieces)
}
