package moulds_test

import (
	"math"
	"slices"
	"strconv"
	"testing"

	"cullet/api"
	"cullet/moulds"
)

func TestMade(t *testing.T) {
	made, e := moulds.Made(pairShop(), pair(), nil, 0, 110)
	list(t, "example", made, e, []api.Ware{bottle(0, 0, 0, 5, true), bottle(1, 0, 1, 55, true), bottle(0, 0, 0, 105, true)})
	for _, x := range []struct{ from, to, first, last int }{
		{0, 800, 0, 12}, {55, 675, 0, 12}, {56, 674, 1, 11}, {105, 105, 1, 3}, {106, 154, 0, 0}, {155, 405, 3, 7}, {276, 374, 0, 0}, {505, 575, 8, 11}, {676, 800, 0, 0},
	} {
		made, e := moulds.Made(pressShop(), press(), pressLog(), x.from, x.to)
		list(t, strconv.Itoa(x.from)+" to "+strconv.Itoa(x.to), made, e, pressWare()[x.first:x.last])
	}
	// a mould is there from From on, and is not there at To
	s := pairShop()
	for _, x := range []struct{ from, to, count int }{{105, 106, 1}, {104, 105, 0}, {106, 205, 0}, {106, 206, 1}, {105, 206, 2}, {0, 106, 2}} {
		s.Mounts = []api.Mount{mount(1, 0, 0, x.from, x.to)}
		made, e := moulds.Made(s, pair(), nil, 0, 300)
		fine(t, "bottles of "+strconv.Itoa(x.from)+" to "+strconv.Itoa(x.to), len(made), e, x.count)
	}
	// gobs that are taken at once come by their sections, the bottles of a gob by their cavities, whatever the order of the mounts is
	m := pair()
	m.Offsets = []int{0, 0}
	s = api.Shop{Cavities: 3, Moulds: numbered(0, 4, 3, 2, 1), Mounts: []api.Mount{mount(0, 1, 2, 0, 99), mount(1, 1, 0, 0, 99), mount(2, 0, 1, 0, 99), mount(3, 0, 0, 1, 99)}}
	made, e = moulds.Made(s, m, nil, 0, 100)
	list(t, "at once", made, e, []api.Ware{bottle(0, 0, 3, 5, true), bottle(0, 1, 2, 5, true), bottle(1, 0, 1, 5, true), bottle(1, 2, 0, 5, true)})
	// the last times
	s = pairShop()
	s.Mounts[0].To = api.MaxClock
	made, e = moulds.Made(s, pair(), nil, api.MaxClock-10000, api.MaxClock)
	fine(t, "longest look", len(made), e, 100)
	made, e = moulds.Made(api.Shop{Cavities: 1}, pair(), nil, 0, 110)
	list(t, "no mounts", made, e, nil)
	made, e = moulds.Made(api.Shop{Cavities: 1}, api.Machine{Cycle: 1}, nil, 0, 100)
	list(t, "no sections", made, e, nil)
	made, e = moulds.Made(pairShop(), api.Machine{Cycle: 1, Offsets: []int{0, 0}}, nil, 0, 100)
	list(t, "no modes", made, e, nil)
}

// wrongWorks spoil a shop, a machine and a log, in the order of their errors.
func wrongWorks() []wrong {
	return []wrong{
		{api.ErrArg, func(c *call) { c.s.Swap = -1 }},
		{api.ErrClash, func(c *call) { c.s.Mounts = append(pressShop().Mounts, mount(2, 0, 0, 300, 301)) }},
		{api.ErrArg, func(c *call) { c.m.Cycle = 0 }},
		{api.ErrTwice, func(c *call) { c.m.Modes = append(press().Modes, api.Mode{Name: "stop"}) }},
		{api.ErrState, func(c *call) { c.m.Spread = 31 }},
		{api.ErrLimit, func(c *call) { c.l = make([]api.Switch, api.MaxSwitches+1) }},
		{api.ErrNone, func(c *call) { c.l = append(pressLog(), api.Switch{Section: 2, Time: 900}) }},
		{api.ErrArg, func(c *call) { c.l = []api.Switch{{Section: 0, Time: -1}} }},
		{api.ErrState, func(c *call) { c.l = append(pressLog(), api.Switch{Section: 0, Time: 499}) }},
		{api.ErrClash, func(c *call) { c.l = append(pressLog(), api.Switch{Section: 0, Time: 700, Mode: 3}) }},
		{api.ErrNone, func(c *call) { c.s.Mounts = append(pressShop().Mounts, mount(3, 2, 0, 400, 500)) }},
		{api.ErrNone, func(c *call) { c.s.Mounts = []api.Mount{mount(3, api.MaxSections-1, 0, 0, 1)} }},
	}
}

// wrongTimes spoil times that are looked at.
func wrongTimes() []wrong {
	var all []wrong
	for _, x := range [][2]int{{-1, 0}, {5, 4}, {0, 10001}, {api.MaxClock, api.MaxClock + 1}, {api.MaxClock + 1, api.MaxClock + 1}, {-1, -1}, {0, math.MaxInt}, {math.MinInt, math.MaxInt}, {math.MaxInt, math.MinInt}, {math.MinInt, 0}, {math.MaxInt, math.MaxInt}} {
		all = append(all, wrong{api.ErrArg, func(c *call) { c.from, c.to = x[0], x[1] }})
	}
	return all
}

func TestMadeErrors(t *testing.T) {
	inOrder(t, "Made", append(wrongWorks(), wrongTimes()...), func(c call) []any {
		made, e := moulds.Made(c.s, c.m, c.l, c.from, c.to)
		return []any{made, e}
	})
	for _, x := range [][2]int{{0, 0}, {0, 10000}, {7, 10007}, {api.MaxClock - 10000, api.MaxClock}, {api.MaxClock, api.MaxClock}} {
		_, e := moulds.Made(pressShop(), press(), pressLog(), x[0], x[1])
		equal(t, "times that may be", e, api.OK)
	}
}

func TestCount(t *testing.T) {
	for _, x := range []struct{ mould, from, to, want int }{
		{0, 0, 800, 3}, {1, 0, 800, 6}, {2, 0, 800, 3}, {3, 0, 800, 0}, {0, 105, 405, 2}, {0, 106, 404, 0}, {1, 155, 475, 3}, {2, 505, 505, 1}, {1, 800, 10800, 0},
	} {
		count, e := moulds.Count(pressShop(), press(), pressLog(), x.mould, x.from, x.to)
		fine(t, "mould "+strconv.Itoa(x.mould)+" from "+strconv.Itoa(x.from), count, e, x.want)
	}
}

// wrongMoulds spoil a mould that is asked for.
func wrongMoulds() []wrong {
	var all []wrong
	for _, n := range []int{-1, 4, math.MinInt, math.MaxInt, api.MaxMoulds} {
		all = append(all, wrong{api.ErrNone, func(c *call) { c.mould = n }})
	}
	return all
}

func TestCountErrors(t *testing.T) {
	errors := slices.Concat(wrongWorks(), wrongTimes(), wrongMoulds())
	inOrder(t, "Count", errors, func(c call) []any {
		count, e := moulds.Count(c.s, c.m, c.l, c.mould, c.from, c.to)
		return []any{count, e}
	})
	inOrder(t, "Windows", errors, func(c call) []any {
		windows, e := moulds.Windows(c.s, c.m, c.l, c.mould, c.from, c.to)
		return []any{windows, e}
	})
}

func TestWorn(t *testing.T) {
	for to, want := range map[int][]int{0: {3}, 504: {3}, 505: {0, 3}, 574: {0, 3}, 575: {0, 1, 3}, 10000: {0, 1, 3}} {
		worn, e := moulds.Worn(pressShop(), press(), pressLog(), to)
		list(t, "up to "+strconv.Itoa(to), worn, e, want)
	}
	s := pressShop()
	s.Moulds[1].Life, s.Moulds[2].Life, s.Moulds[3].Life = 7, 3, 1
	worn, e := moulds.Worn(s, press(), pressLog(), 800)
	list(t, "other lives", worn, e, []int{0, 2})
	var errors []wrong
	for _, n := range []int{-1, 10001, api.MaxClock, math.MinInt, math.MaxInt} {
		errors = append(errors, wrong{api.ErrArg, func(c *call) { c.till = n }})
	}
	inOrder(t, "Worn", append(wrongWorks(), errors...), func(c call) []any {
		worn, e := moulds.Worn(c.s, c.m, c.l, c.till)
		return []any{worn, e}
	})
}

func TestSources(t *testing.T) {
	sources, e := moulds.Sources(pairShop(), pair(), nil, api.Sight{Time: 260})
	list(t, "example", sources, e, []api.Ware{bottle(1, 0, 1, 55, true)})
	all := pressWare()
	for _, x := range []struct {
		time, number int
		want         []api.Ware
	}{
		{0, 0, nil}, {19, 0, nil}, {74, 0, nil}, {75, 0, all[:1]}, {115, 0, all[:1]}, {116, 0, nil}, {124, 0, nil}, {125, 0, all[1:3]}, {165, 0, all[1:3]}, {166, 0, nil}, {140, 11, all[1:2]}, {140, 13, all[2:3]},
		{140, 12, nil}, {140, 9, nil}, {140, 999, nil}, {100, 12, all[:1]}, {400, 0, all[4:5]}, {435, 0, all[4:5]}, {440, 0, nil}, {440, 11, nil}, {545, 0, nil}, {635, 0, all[10:11]}, {api.MaxClock, 0, nil},
	} {
		sources, e := moulds.Sources(pressShop(), press(), pressLog(), api.Sight{Time: x.time, Number: x.number})
		list(t, strconv.Itoa(x.time)+":"+strconv.Itoa(x.number), sources, e, x.want)
	}
	// as long a delay as may be looked at, which reaches back beyond the time 0
	s := pressShop()
	s.Low, s.High = 10, 10010
	kept := slices.DeleteFunc(pressWare(), func(x api.Ware) bool { return !x.Kept })
	for time, count := range map[int]int{10065: 8, 10066: 7, 685: 8, 684: 7, 64: 0, 65: 1} {
		sources, e := moulds.Sources(s, press(), pressLog(), api.Sight{Time: time})
		fine(t, "long delay, "+strconv.Itoa(time), len(sources), e, count)
		for _, x := range sources {
			equal(t, "kept", slices.Contains(kept, x), true)
		}
	}
	s.Mounts[3].To = api.MaxClock
	sources, e = moulds.Sources(s, press(), pressLog(), api.Sight{Time: api.MaxClock})
	fine(t, "last time", len(sources), e, 100)
}

// wrongSights spoil the second of three sights.
func wrongSights() []wrong {
	var all []wrong
	for _, x := range []api.Sight{{Time: -1}, {Time: api.MaxClock + 1}, {Number: -1}, {Number: api.MaxNumber + 1}, {Time: math.MinInt, Number: 5}, {Time: 5, Number: math.MaxInt}, {Time: math.MaxInt, Number: math.MinInt}} {
		all = append(all, wrong{api.ErrArg, func(c *call) { c.sights[1] = x }})
	}
	return all
}

func TestSourcesErrors(t *testing.T) {
	far := func(low, high int) wrong {
		return wrong{api.ErrScope, func(c *call) { c.s.Low, c.s.High = low, high }}
	}
	errors := append(wrongWorks(), wrongSights()...)
	errors = append(errors, far(0, 10001), far(5, 10006), far(0, api.MaxDelay))
	inOrder(t, "Sources", errors, func(c call) []any {
		c.look = 1
		sources, e := c.sources()
		return []any{sources, e}
	})
}

func TestWindows(t *testing.T) {
	windows, e := moulds.Windows(pairShop(), pair(), nil, 0, 0, 110)
	list(t, "example", windows, e, []api.Span{span(205, 215), span(305, 315)})
	for _, x := range []struct {
		mould, low, high, from, to int
		want                       []api.Span
	}{
		{1, 20, 60, 0, 800, []api.Span{span(75, 115), span(175, 215), span(395, 435), span(495, 535), span(595, 635), span(695, 735)}},
		{0, 20, 60, 0, 800, []api.Span{span(125, 165)}}, // two of its bottles are rejected
		{0, 20, 60, 106, 800, nil},
		{3, 20, 60, 0, 800, nil},
		{1, 0, 0, 55, 375, []api.Span{span(55, 55), span(155, 155), span(375, 375)}},
		{1, 20, 118, 0, 500, []api.Span{span(75, 173), span(175, 273), span(395, 493), span(495, 593)}}, // a time between two neighbours
		{1, 20, 119, 0, 500, []api.Span{span(75, 274), span(395, 594)}},                                 // and none
		{1, 20, 120, 0, 500, []api.Span{span(75, 275), span(395, 595)}},
		{1, 20, 238, 0, 500, []api.Span{span(75, 393), span(395, 713)}},
		{1, 20, 239, 0, 500, []api.Span{span(75, 714)}},
		{1, 0, api.MaxDelay, 155, 500, []api.Span{span(155, 475+api.MaxDelay)}},
	} {
		s := pressShop()
		s.Low, s.High = x.low, x.high
		windows, e := moulds.Windows(s, press(), pressLog(), x.mould, x.from, x.to)
		list(t, "mould "+strconv.Itoa(x.mould)+", delay up to "+strconv.Itoa(x.high), windows, e, x.want)
	}
	// whatever the delay is, also if the last time comes before it is over
	s := pairShop()
	s.Mounts[0].To = api.MaxClock
	windows, e = moulds.Windows(s, pair(), nil, 0, api.MaxClock-100, api.MaxClock)
	list(t, "last time", windows, e, []api.Span{span(api.MaxClock+105, api.MaxClock+115)})
}

func TestFits(t *testing.T) {
	at, e := moulds.Fits(pressShop(), press(), pressLog())
	fine(t, "press", at, e, 5)
	at, e = moulds.Fits(pairShop(), pair(), nil)
	fine(t, "example", at, e, 2)
	at, e = moulds.Fits(api.Shop{Cavities: 1, Swap: 100}, pair(), nil)
	fine(t, "no mounts", at, e, 0)
	// swaps ahead of a gob, at it and behind it; at most the 10 ticks ahead of a swap and the 9 behind it are of it
	for _, x := range []struct {
		swap, from, to int
		fits           bool
	}{
		{10, 20, 95, true}, {10, 16, 95, true}, {10, 15, 95, false}, {10, 5, 95, false}, {10, 0, 95, false}, {10, 20, 96, false}, {10, 20, 105, false}, {10, 20, 115, false}, {10, 20, 116, true}, {10, 20, 195, true},
		{0, 5, 105, true}, {1, 4, 50, true}, {1, 5, 50, false}, {1, 6, 50, false}, {1, 7, 50, true}, {1, 50, 104, true}, {1, 50, 105, false}, {1, 50, 106, false}, {1, 50, 107, true}, {5, 0, 50, true}, {6, 0, 50, false},
		{50, 56, 155, false}, {api.MaxDelay, 20, 95, false}, {0, 0, api.MaxClock, true}, {5, 20, api.MaxClock, true}, {api.MaxDelay, 20, api.MaxClock, false},
	} {
		s := pairShop()
		s.Swap = x.swap
		s.Mounts = []api.Mount{mount(0, 0, 0, x.from, x.to)}
		at, e := moulds.Fits(s, pair(), nil)
		fine(t, "swap "+strconv.Itoa(x.swap)+" from "+strconv.Itoa(x.from)+" to "+strconv.Itoa(x.to), at == 1, e, x.fits)
	}
	// times below 0 and above MaxClock do not matter
	for gob, want := range map[int]int{91: 1, 99: 1, 0: 0, 9: 0, 10: 1, 50: 1} {
		m := pair()
		m.Modes[0].Gob = gob
		s := pairShop()
		s.Swap = 10
		s.Mounts = []api.Mount{mount(0, 0, 0, 0, 30)}
		at, e := moulds.Fits(s, m, nil)
		fine(t, "at first, gob "+strconv.Itoa(gob), at, e, want)
	}
	for gob, want := range map[int]int{89: 1, 90: 0, 99: 0, 0: 0, 1: 1, 9: 1} {
		m := pair()
		m.Modes[0].Gob = gob
		s := pairShop()
		s.Swap = 10
		s.Mounts = []api.Mount{mount(0, 0, 0, 30, api.MaxClock)}
		at, e := moulds.Fits(s, m, nil)
		fine(t, "at last, gob "+strconv.Itoa(gob), at, e, want)
	}
}

// TestFitsFirst: the first mount is told that does not fit its own section (P6.2).
func TestFitsFirst(t *testing.T) {
	s := pairShop()
	s.Swap = 10
	s.Mounts = []api.Mount{mount(0, 0, 0, 20, 50), mount(1, 1, 0, 20, 95), mount(0, 0, 0, 55, 80), mount(1, 1, 0, 99, 100)}
	at, e := moulds.Fits(s, pair(), nil)
	fine(t, "all", at, e, 4)
	s.Mounts[3].From = 95
	s.Mounts[1].To = 95
	for at, spoil := range map[int]func(){
		3: func() { s.Mounts[3].To = 165 },
		2: func() { s.Mounts[2].From, s.Mounts[2].To = 60, 110 },
		1: func() { s.Mounts[1].To = 60 },
		0: func() { s.Mounts[0].From = 15 },
	} {
		kept := slices.Clone(s.Mounts)
		spoil()
		got, e := moulds.Fits(s, pair(), nil)
		fine(t, "spoiled", got, e, at)
		s.Mounts = kept
	}
	s.Mounts[3].To = 165
	s.Mounts[1].To = 60
	at, e = moulds.Fits(s, pair(), nil)
	fine(t, "two of them", at, e, 1)
	// gobs of which the ware is rejected count, and those behind a switch, but none of a mode that takes none
	s.Mounts = []api.Mount{mount(0, 0, 0, 250, 270)}
	at, e = moulds.Fits(s, press(), []api.Switch{{Section: 0, Time: 200, Mode: 1}})
	fine(t, "stopped", at, e, 1)
	s.Mounts = []api.Mount{mount(0, 0, 0, 250, 410)}
	at, e = moulds.Fits(s, press(), pressLog())
	fine(t, "rejected", at, e, 0)
	s.Mounts = []api.Mount{mount(0, 1, 0, 290, 330)}
	at, e = moulds.Fits(s, press(), pressLog())
	fine(t, "behind a switch", at, e, 1)
	s.Mounts[0].From = 270
	at, e = moulds.Fits(s, press(), pressLog())
	fine(t, "of the new mode", at, e, 0)
}

// TestFitsFar: a swap may take many times as long as may be looked at together (P6.2).
func TestFitsFar(t *testing.T) {
	m := api.Machine{Cycle: 3, Offsets: []int{0, 1}, Modes: []api.Mode{{Name: "stop", Gob: -1}, {Name: "run", Gob: 2}}}
	s := pairShop()
	s.Swap = api.MaxDelay
	s.Mounts = []api.Mount{mount(0, 0, 0, 150000, 600000)}
	on := func(section, from, to int) []api.Switch {
		return []api.Switch{{Section: section, Time: from, Mode: 1}, {Section: section, Time: to, Mode: 0}}
	}
	for _, x := range []struct {
		l    []api.Switch
		want int
	}{
		{nil, 1},
		{on(0, 0, 50000), 1}, // the times of the first swap are those from 50000 to 249999
		{on(0, 0, 50001), 0},
		{on(0, 100000, 100003), 0},
		{on(0, 249998, 250001), 0},
		{on(0, 249999, 500000), 1}, // those of the second one from 500000 to 699999
		{on(0, 499998, 500001), 0},
		{on(0, 699997, 700000), 0},
		{on(0, 699999, 800000), 1},
		{on(1, 0, 900000), 1},
	} {
		at, e := moulds.Fits(s, m, x.l)
		fine(t, "switched on from "+strconv.Itoa(append(x.l, api.Switch{})[0].Time), at, e, x.want)
	}
}

// takesAbout tells, time by time, whether a section takes a gob about a swap.
func (c call) takesAbout(section, swap int) bool {
	for t := max(0, swap-c.s.Swap); t < min(swap+c.s.Swap, api.MaxClock+1); t++ {
		isOfSection := func(g api.Gob) bool { return g.Section == section }
		if slices.ContainsFunc(c.gobsAt(t), isOfSection) {
			return true
		}
	}
	return false
}

func TestFitsErrors(t *testing.T) {
	inOrder(t, "Fits", wrongWorks(), func(c call) []any {
		at, e := moulds.Fits(c.s, c.m, c.l)
		return []any{at, e}
	})
}

// TestAlike: all of it says the same as the chapter, time by time (P6.2).
func TestAlike(t *testing.T) {
	r := newRand(63)
	bottles, rejected, misfits := 0, 0, 0
	for range 1500 {
		c := someCall(r)
		want := c.made(c.from, c.to)
		if c.to > c.from+api.MaxLook*c.m.Cycle {
			continue
		}
		made, e := moulds.Made(c.s, c.m, c.l, c.from, c.to)
		list(t, "made", made, e, want)
		fit := 0
		for fit < len(c.s.Mounts) && !c.takesAbout(c.s.Mounts[fit].Section, c.s.Mounts[fit].From) && !c.takesAbout(c.s.Mounts[fit].Section, c.s.Mounts[fit].To) {
			fit++
		}
		at, e := moulds.Fits(c.s, c.m, c.l)
		fine(t, "fits", at, e, fit)
		if fit < len(c.s.Mounts) {
			misfits++
		}
		for _, x := range want {
			bottles++
			if !x.Kept {
				rejected++
			}
		}
		if c.mould < len(c.s.Moulds) {
			c.countsAlike(t, want)
		}
		c.wornAlike(t)
		for _, x := range c.sights {
			isNot := func(y api.Ware) bool { return !c.mayBe(x, y) }
			sources, e := moulds.Sources(c.s, c.m, c.l, x)
			list(t, "sources", sources, e, slices.DeleteFunc(c.made(0, x.Time), isNot))
		}
	}
	if bottles < 5000 || rejected < 300 || misfits < 300 {
		t.Fatal("the shops are not of all kinds", bottles, rejected, misfits)
	}
}

// countsAlike checks how many bottles a mould makes, and when they may be inspected.
func (c call) countsAlike(t *testing.T, made []api.Ware) {
	t.Helper()
	count := 0
	seen := map[int]bool{}
	for _, x := range made {
		if x.Mould != c.mould {
			continue
		}
		count++
		for at := x.Time + c.s.Low; at <= x.Time+c.s.High && x.Kept; at++ {
			seen[at] = true
		}
	}
	got, e := moulds.Count(c.s, c.m, c.l, c.mould, c.from, c.to)
	fine(t, "count", got, e, count)
	var want []api.Span
	for at := range 4 * lasts {
		if seen[at] && !seen[at-1] {
			want = append(want, span(at, at))
		}
		if seen[at] {
			want[len(want)-1].High = at
		}
	}
	windows, e := moulds.Windows(c.s, c.m, c.l, c.mould, c.from, c.to)
	list(t, "windows", windows, e, want)
}

// wornAlike checks which moulds are worn.
func (c call) wornAlike(t *testing.T) {
	t.Helper()
	made := c.made(0, c.till)
	var want []int
	for mould, x := range c.s.Moulds {
		count := 0
		for _, y := range made {
			if y.Mould == mould {
				count++
			}
		}
		if count >= x.Life {
			want = append(want, mould)
		}
	}
	worn, e := moulds.Worn(c.s, c.m, c.l, c.till)
	list(t, "worn", worn, e, want)
}
