package inspect_test

import (
	"math"
	"math/rand"
	"slices"
	"testing"

	"cullet/api"
	"cullet/forming"
	"cullet/inspect"
	"cullet/moulds"
)

func hold(mould, from, to int) api.Hold { return api.Hold{Mould: mould, From: from, To: to} }

// held checks which bottles are held.
func held(t *testing.T, what string, c call, want ...int) {
	t.Helper()
	got, e := inspect.Held(c.c, c.l, c.s, c.m, c.w, c.holds)
	list(t, what, got, e, want)
}

// releases checks which lots may leave.
func releases(t *testing.T, what string, c call, want ...int) {
	t.Helper()
	got, e := inspect.Release(c.c, c.l, c.s, c.m, c.w, c.holds)
	list(t, what, got, e, want)
}

func TestHeld(t *testing.T) {
	c := good()
	held(t, "good", c, 13)
	releases(t, "good", c, 7)
	// the windows of the mould 0 are 5 to 15 and 105 to 115, those of the mould 1 are 55 to 65 and 155 to 165
	c.l = []api.Run{
		bottle(4, 1, 11, false), bottle(5, 2, 11, false), bottle(5, 3, 0, false), bottle(5, 4, 12, false), bottle(5, 4, 999, false), bottle(10, 5, 11, true), bottle(15, 5, 11, false), bottle(15, 5, 0, true), bottle(16, 6, 0, false),
		bottle(55, 7, 12, false), bottle(60, 8, 0, false), bottle(60, 9, 11, false), bottle(105, 10, 0, false), bottle(115, 11, 11, false), bottle(116, 12, 11, false), sample(116, eyes, crack, true), bottle(165, 13, 12, false),
	}
	for _, x := range []struct {
		holds []api.Hold
		want  []int
	}{
		{nil, nil},
		{[]api.Hold{hold(0, 0, 200)}, []int{1, 2, 6, 12, 13}},
		{[]api.Hold{hold(0, 0, 104)}, []int{1, 2, 6}},
		{[]api.Hold{hold(0, 6, 105)}, []int{12, 13}},
		{[]api.Hold{hold(0, 5, 5)}, []int{1, 2, 6}},
		{[]api.Hold{hold(0, 6, 104)}, nil},
		{[]api.Hold{hold(1, 0, 200)}, []int{9, 10, 16}},
		{[]api.Hold{hold(2, 0, 200)}, nil}, // it is nowhere
		{[]api.Hold{hold(1, 0, 200), hold(0, 0, 200)}, []int{1, 2, 6, 9, 10, 12, 13, 16}},
		{[]api.Hold{hold(0, 0, 200), hold(0, 0, 200), hold(0, 5, 5)}, []int{1, 2, 6, 12, 13}},
		{slices.Repeat([]api.Hold{hold(1, 0, 60)}, api.MaxHolds), []int{9, 10}},
	} {
		c.holds = x.holds
		held(t, "one by one", c, x.want...)
	}
	// ware that was not kept is not held; that of 505 is the first that is kept again behind the switch at 430
	c.holds = []api.Hold{hold(0, 400, 700)}
	c.w = []api.Switch{{Section: 0, Time: 410, Mode: 1}, {Section: 0, Time: 530, Mode: 0}}
	c.l = []api.Run{bottle(405, 1, 11, false), bottle(505, 1, 11, false), bottle(605, 1, 11, false), bottle(705, 1, 11, false)}
	held(t, "stopped, and rejected", c, 0)
	c.holds[0].To = 705
	held(t, "kept again", c, 0, 3)
}

func TestRelease(t *testing.T) {
	c := good()
	c.c = eye()
	c.l = []api.Run{
		sample(0, 0, 0, true), bottle(5, 3, 11, false), bottle(6, 9, 12, false), bottle(7, 9, 0, true), bottle(20, 4, 0, false), bottle(25, 2, 0, false), bottle(26, 2, 0, true), sample(40, 0, 0, true),
		bottle(50, 5, 0, false), bottle(60, 7, 11, false), bottle(60, 5, 13, false), sample(80, 0, 0, true), bottle(90, 6, 0, false), sample(95, 0, 0, false), sample(96, 0, 0, true), bottle(97, 8, 0, false),
	}
	sorts(t, c.c, c.l, []int{2, 3, 4, 5, 7, 9}, []int{6}, []int{8})
	for _, x := range []struct {
		holds []api.Hold
		want  []int
	}{
		{nil, []int{2, 3, 4, 5, 7, 9}},
		{[]api.Hold{hold(0, 0, 99)}, []int{2, 4, 5, 7, 9}},
		{[]api.Hold{hold(1, 0, 99)}, []int{2, 3, 4, 5, 7, 9}},
		{[]api.Hold{hold(2, 0, 99)}, []int{2, 3, 4, 5, 7, 9}},
	} {
		c.holds = x.holds
		releases(t, "one by one", c, x.want...)
	}
	// one bottle that is held keeps the whole lot
	c.s.High = 15
	c.holds = []api.Hold{hold(0, 0, 99)}
	held(t, "late", c, 1, 4)
	releases(t, "late", c, 2, 5, 7, 9)
	c.holds = []api.Hold{hold(1, 0, 99)}
	held(t, "late, of the other mould", c)
	releases(t, "late, of the other mould", c, 2, 3, 4, 5, 7, 9)
	c.s.Low, c.s.High = 0, 5
	c.l[10].Number = 12
	held(t, "late in a lot", c, 10)
	releases(t, "late in a lot", c, 2, 3, 4, 7, 9)
	c.l[10].Out = true
	releases(t, "rejected", c, 2, 3, 4, 5, 7, 9)
	c.l = nil
	releases(t, "nothing", c)
}

// wrongHolds are the errors of Held and Release, in their order.
func wrongHolds() []wrong {
	all := append(wrongLogs(),
		wrong{api.ErrLimit, func(c *call) {
			c.holds = append(c.holds, make([]api.Hold, api.MaxHolds+1-len(c.holds))...)
		}},
		wrong{api.ErrArg, func(c *call) { c.s.Cavities = 0 }},
		wrong{api.ErrArg, func(c *call) { c.s.Low, c.s.High = 9, 8 }},
		wrong{api.ErrTwice, func(c *call) { c.s.Moulds[1].Number = c.s.Moulds[0].Number }},
		wrong{api.ErrNone, func(c *call) { c.s.Mounts[1].Mould = 3 }},
		wrong{api.ErrClash, func(c *call) { c.s.Mounts[1].Mould = 0 }},
		wrong{api.ErrArg, func(c *call) { c.m.Cycle = 0 }},
		wrong{api.ErrName, func(c *call) { c.m.Modes[1].Name = "" }},
		wrong{api.ErrState, func(c *call) { c.m.Spread = 51 }},
		wrong{api.ErrLimit, func(c *call) { c.w = make([]api.Switch, api.MaxSwitches+1) }},
		wrong{api.ErrNone, func(c *call) { c.w[1].Section = 2 }},
		wrong{api.ErrState, func(c *call) { c.w[1].Time = 309 }},
		wrong{api.ErrNone, func(c *call) { c.s.Mounts[1].Section = 2 }},
	)
	for hold := range 2 {
		for _, x := range [][2]int{{-1, 0}, {5, 4}, {0, 10001}, {api.MaxClock, api.MaxClock + 1}, {math.MinInt, math.MaxInt}, {math.MaxInt, math.MinInt}} {
			all = append(all, wrong{api.ErrArg, func(c *call) { c.holds[hold].From, c.holds[hold].To = x[0], x[1] }})
		}
		for _, n := range []int{-1, 3, math.MinInt, math.MaxInt} {
			all = append(all, wrong{api.ErrNone, func(c *call) { c.holds[hold].Mould = n }})
		}
	}
	return all
}

func TestHoldErrors(t *testing.T) {
	inOrder(t, "Held", wrongHolds(), func(c call) []any {
		all, e := inspect.Held(c.c, c.l, c.s, c.m, c.w, c.holds)
		return []any{all, e}
	})
	inOrder(t, "Release", wrongHolds(), func(c call) []any {
		all, e := inspect.Release(c.c, c.l, c.s, c.m, c.w, c.holds)
		return []any{all, e}
	})
}

// TestNoHolds: without holds nothing is asked of the machine, but of the shop (P7.3).
func TestNoHolds(t *testing.T) {
	for what, spoil := range map[string]func(*call){
		"machine":         func(c *call) { c.m = api.Machine{} },
		"unsafe machine":  func(c *call) { c.m.Spread = 100 },
		"switches":        func(c *call) { c.w = make([]api.Switch, api.MaxSwitches+1) },
		"mount elsewhere": func(c *call) { c.s.Mounts[1].Section = 15 },
	} {
		c := good()
		c.holds = nil
		spoil(&c)
		held(t, what, c)
		releases(t, what, c, 7)
	}
	c := good()
	c.holds = nil
	c.s = api.Shop{}
	_, e := inspect.Held(c.c, c.l, c.s, c.m, c.w, c.holds)
	equal(t, "shop", e, api.ErrArg)
	_, e = inspect.Release(c.c, c.l, c.s, c.m, c.w, c.holds)
	equal(t, "shop", e, api.ErrArg)
}

// lasts is how long the works of some calls run.
const lasts = 150

// someWorks is a machine with a log of switches, and a shop in it: moulds that go round among the cavities.
func someWorks(r *rand.Rand) call {
	c := call{m: api.Machine{Cycle: 4 + r.Intn(8), Modes: []api.Mode{{Name: "stop", Gob: -1}}}}
	c.m.Modes = slices.Insert(c.m.Modes, 0, api.Mode{Name: "run", Gob: r.Intn(c.m.Cycle), Reject: r.Intn(3)})
	for range 1 + r.Intn(3) {
		c.m.Offsets = append(c.m.Offsets, r.Intn(c.m.Cycle))
	}
	for t := r.Intn(60); t < lasts && r.Intn(3) > 0; t += c.m.Cycle + r.Intn(40) {
		c.w = append(c.w, api.Switch{Section: r.Intn(len(c.m.Offsets)), Time: t, Mode: r.Intn(2)})
	}
	c.s = api.Shop{Cavities: 1 + r.Intn(2), Low: r.Intn(20)}
	c.s.High = c.s.Low + r.Intn(8)
	count := len(c.m.Offsets) * c.s.Cavities
	for i := range count + r.Intn(2) {
		c.s.Moulds = append(c.s.Moulds, api.Mould{Number: 11 + i})
	}
	at := r.Intn(lasts)
	for i := range 2 * count {
		// each cavity has another mould from the time at on
		x := api.Mount{Mould: i % len(c.s.Moulds), Section: i % count / c.s.Cavities, Cavity: i % c.s.Cavities, From: 0, To: at + 1}
		if i >= count {
			x.From, x.To = at+1, 2*lasts
		}
		c.s.Mounts = append(c.s.Mounts, x)
	}
	for range 1 + r.Intn(3) {
		from := r.Intn(lasts)
		c.holds = append(c.holds, hold(r.Intn(len(c.s.Moulds)), from, from+r.Intn(60)))
	}
	if _, e := forming.Drive(c.m, c.w); e != api.OK || moulds.Check(c.s) != api.OK {
		panic("works that may not be")
	}
	return c
}

// mayBeHeld tells, as the chapters say it, gob by gob and delay by delay, whether a bottle may be one that a hold keeps back.
func (c call) mayBeHeld(t *testing.T, x api.Run, h api.Hold) bool {
	t.Helper()
	made, e := moulds.Made(c.s, c.m, c.w, h.From, h.To)
	equal(t, "error", e, api.OK)
	for _, y := range made {
		for delay := c.s.Low; delay <= c.s.High; delay++ {
			if y.Mould == h.Mould && y.Kept && y.Time+delay == x.Time && (x.Number == 0 || x.Number == c.s.Moulds[h.Mould].Number) {
				return true
			}
		}
	}
	return false
}

// TestHeldAlike: Held and Release say the same as the chapter (P7.3).
func TestHeldAlike(t *testing.T) {
	r := newRand(73)
	holding, leaving, staying := 0, 0, 0
	for range 1000 {
		c := someWorks(r)
		c.c = someChecker(r)
		if r.Intn(2) > 0 {
			c.c.Flaws, c.c.Stands = nil, nil // all lots are clear
		}
		c.l = someLog(r, c.c)
		for i := range c.l {
			if c.l[i].Kind == api.RuBottle && r.Intn(3) == 0 {
				c.l[i].Number = 0
			}
		}
		var want []int
		for _, entry := range kept(c.l) {
			isHeld := func(h api.Hold) bool { return c.mayBeHeld(t, c.l[entry], h) }
			if slices.ContainsFunc(c.holds, isHeld) {
				want = append(want, entry)
				holding++
			}
		}
		held(t, "held", c, want...)
		clear, _, _ := lotsOf(c.c, c.l, 5)
		var free []int
		for _, lot := range clear {
			isOfLot := func(entry int) bool { return c.l[entry].Lot == lot }
			if slices.ContainsFunc(want, isOfLot) {
				staying++
				continue
			}
			free = append(free, lot)
			leaving++
		}
		releases(t, "free", c, free...)
	}
	if min(holding, leaving, staying) < 200 {
		t.Fatal("the works are not of all kinds", holding, leaving, staying)
	}
}

// TestTraced: a kept bottle that a mould made in the times of a hold, and that was inspected with a delay as the shop says, is held, and its lot is not released (P7.7, P0.2).
func TestTraced(t *testing.T) {
	r := newRand(77)
	traced := 0
	for range 300 {
		c := someWorks(r)
		c.c = api.Checker{Every: 1} // all lots are clear, so that only holds keep them
		var ware []api.Ware
		for _, h := range c.holds {
			made, e := moulds.Made(c.s, c.m, c.w, h.From, h.To)
			equal(t, "error", e, api.OK)
			for _, x := range made {
				if x.Mould == h.Mould && x.Kept {
					ware = append(ware, x)
				}
			}
		}
		for _, x := range ware {
			number := r.Intn(2) * c.s.Moulds[x.Mould].Number
			c.l = append(c.l, bottle(x.Time+c.s.Low+r.Intn(c.s.High-c.s.Low+1), len(c.l)/3, number, false))
		}
		slices.SortFunc(c.l, func(a, b api.Run) int { return a.Time - b.Time })
		traced += len(c.l)
		held(t, "held", c, kept(c.l)...)
		releases(t, "none is free", c)
	}
	if traced < 1000 {
		t.Fatal("too few bottles", traced)
	}
}
