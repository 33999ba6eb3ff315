package forming_test

import (
	"math"
	"math/big"
	"math/rand"
	"strconv"
	"testing"

	"cullet/api"
	"cullet/forming"
)

// turns is a machine of two sections whose only mechanism turns at different speeds in its modes.
func turns() api.Machine {
	return api.Machine{
		Cycle: 10, Offsets: []int{0, 4}, Spread: 2,
		Mechs: []api.Mech{{Name: "a", Home: 8, Most: 9}},
		Modes: []api.Mode{
			{Name: "slow", Motions: [][]api.Knot{knots(0, 0, 5, 5)}, Gob: 1, Reject: 0},
			{Name: "fast", Motions: [][]api.Knot{knots(0, 0, 3, 9, 6, 0)}, Gob: 3, Reject: 2},
			{Name: "rest", Motions: [][]api.Knot{knots(0, 0)}, Gob: -1, Reject: 9},
		},
	}
}

// turnsLog has the section 1 go to fast at 14, to rest at 24 and to slow at 54, and the section 0 to fast at 20.
func turnsLog() []api.Switch {
	return []api.Switch{{Section: 1, Time: 14, Mode: 1}, {Section: 0, Time: 20, Mode: 1}, {Section: 1, Time: 24, Mode: 2}, {Section: 1, Time: 54, Mode: 0}}
}

func TestPlace(t *testing.T) {
	for _, x := range []struct {
		section int
		t, want api.Ratio
	}{
		{0, whole(0), whole(0)},
		{0, whole(3), whole(3)},
		{0, ratio(7, 2), ratio(7, 2)},
		{0, ratio(46, 5), ratio(4, 5)},
		{0, whole(20), whole(0)},
		{0, ratio(39, 2), ratio(1, 2)},
		{0, ratio(41, 2), ratio(3, 2)},
		{0, whole(api.MaxClock - 1), whole(0)},
		{0, whole(api.MaxClock - 5), whole(3)},
		{1, whole(0), whole(4)}, // 4 ahead of its cycle
		{1, ratio(1, 2), ratio(7, 2)},
		{1, whole(6), whole(2)},
		{1, ratio(40, 3), ratio(2, 3)},
		{1, ratio(43, 3), whole(1)},
		{1, ratio(71, 3), whole(0)},
		{1, ratio(49, 2), whole(0)},
		{1, ratio(107, 2), whole(0)},
		{1, whole(54), whole(0)},
		{1, whole(56), whole(2)},
	} {
		got, e := forming.Place(turns(), turnsLog(), x.section, 0, x.t)
		equal(t, "error", e, api.OK)
		equal(t, "section "+strconv.Itoa(x.section)+" at "+strconv.Itoa(x.t.Num)+"/"+strconv.Itoa(x.t.Den), got, x.want)
	}
	got, e := forming.Place(press(), nil, 1, 1, ratio(1, 1000000))
	equal(t, "error", e, api.OK)
	equal(t, "least time", got, whole(0))
	got, e = forming.Place(press(), nil, 1, 0, ratio(999999999, 1000000))
	equal(t, "error", e, api.OK)
	equal(t, "fine time", got, whole(100))
}

func TestPlaceErrors(t *testing.T) {
	bad := []api.Switch{{Time: 1, Mode: 1}}
	bare := api.Machine{Cycle: 10, Offsets: []int{0}, Mechs: []api.Mech{{Name: "a"}}}
	for what, x := range map[string]struct {
		m             api.Machine
		l             []api.Switch
		section, mech int
		t             api.Ratio
		e             api.Errno
	}{
		"good":                 {turns(), turnsLog(), 1, 0, whole(1), api.OK},
		"log first":            {turns(), bad, -1, -1, ratio(0, 0), api.ErrClash},
		"long log":             {turns(), make([]api.Switch, api.MaxSwitches+1), -1, -1, ratio(0, 0), api.ErrLimit},
		"section below":        {turns(), nil, -1, 0, ratio(0, 0), api.ErrNone},
		"section above":        {turns(), nil, 2, 0, ratio(0, 0), api.ErrNone},
		"mechanism below":      {turns(), nil, 0, -1, ratio(0, 0), api.ErrNone},
		"mechanism above":      {turns(), nil, 0, 1, ratio(0, 0), api.ErrNone},
		"far off":              {turns(), nil, math.MaxInt, math.MinInt, whole(0), api.ErrNone},
		"time below":           {turns(), nil, 0, 0, whole(-1), api.ErrArg},
		"time a little below":  {turns(), nil, 0, 0, ratio(-1, 1000000), api.ErrArg},
		"time above":           {turns(), nil, 0, 0, whole(api.MaxClock + 1), api.ErrArg},
		"time ahead of mode":   {bare, nil, 0, 0, ratio(2, 2), api.ErrArg},
		"no mode":              {bare, nil, 0, 0, whole(0), api.ErrNone},
		"no section, no mode":  {bare, nil, 1, 0, ratio(2, 2), api.ErrNone},
		"last time":            {turns(), nil, 0, 0, whole(api.MaxClock), api.OK},
		"last part of a time":  {turns(), nil, 0, 0, ratio(999999999, 1000000), api.OK},
		"as in Where, Num too": {turns(), nil, 0, 0, ratio(api.MaxClock+1, 2), api.ErrArg},
	} {
		got, e := forming.Place(x.m, x.l, x.section, x.mech, x.t)
		equal(t, what, e, x.e)
		if e != api.OK {
			equal(t, what+": place", got, api.Ratio{})
		}
	}
	for _, at := range badTimes() {
		got, e := forming.Place(turns(), nil, 0, 0, at)
		if !onlyError([]any{got, e}, api.ErrArg) {
			t.Error(at, got, e)
		}
	}
}

// modeAlike is the number of the switch by which a section runs its mode at a time, -1 if it is none, and the mode, as the chapter says it.
func modeAlike(l []api.Switch, section int, t *big.Rat) (by, mode int) {
	by = -1
	for i, s := range l {
		if s.Section == section && rat(whole(s.Time)).Cmp(t) <= 0 {
			by, mode = i, s.Mode
		}
	}
	return by, mode
}

// TestPlaceAlike: Place says the same as the chapter (P4.3).
func TestPlaceAlike(t *testing.T) {
	r := rand.New(rand.NewSource(41))
	for range 400 {
		m := safeMachine(r)
		l := someLog(r, m, 5)
		for range 20 {
			section, mech := r.Intn(len(m.Offsets)), r.Intn(len(m.Mechs))
			den := 1 + r.Intn(6)
			at := rat(ratio(r.Intn(8*m.Cycle*den), den))
			if len(l) > 0 && r.Intn(3) == 0 {
				at = rat(whole(l[r.Intn(len(l))].Time))
			}
			_, mode := modeAlike(l, section, at)
			want := position(m.Cycle, m.Mechs[mech].Home, m.Modes[mode].Motions[mech], new(big.Rat).Sub(at, rat(whole(m.Offsets[section]))))
			got, e := forming.Place(m, l, section, mech, fromRat(at))
			equal(t, "error", e, api.OK)
			equal(t, "place", got, fromRat(want))
		}
	}
}

func TestGobs(t *testing.T) {
	gob := func(section, time int, kept bool) api.Gob { return api.Gob{Section: section, Time: time, Kept: kept} }
	all := []api.Gob{
		gob(0, 1, true), gob(1, 5, true), gob(0, 11, true),
		gob(1, 17, false),
		gob(0, 23, false), gob(0, 33, false), gob(0, 43, true), gob(0, 53, true),
		gob(1, 55, true), gob(0, 63, true), gob(1, 65, true),
	}
	for _, x := range []struct{ from, to, first, last int }{
		{0, 70, 0, 11}, {1, 65, 0, 11}, {2, 64, 1, 10}, {5, 5, 1, 2}, {6, 10, 0, 0}, {12, 54, 3, 8}, {17, 17, 3, 4}, {18, 22, 0, 0}, {20, 43, 4, 7},
	} {
		got, e := forming.Gobs(turns(), turnsLog(), x.from, x.to)
		equal(t, "error", e, api.OK)
		same(t, strconv.Itoa(x.from)+" to "+strconv.Itoa(x.to), got, all[x.first:x.last])
	}
	// at the time of a switch the section runs the new mode, and of gobs at a time the least section comes first
	m := turns()
	m.Spread, m.Offsets = 0, []int{0, 0, 0}
	m.Modes[2].Gob, m.Modes[2].Reject = 0, 1
	got, e := forming.Gobs(m, []api.Switch{{Section: 1, Time: 10, Mode: 2}, {Section: 2, Time: 10, Mode: 1}, {Section: 2, Time: 30, Mode: 2}}, 10, 31)
	equal(t, "error", e, api.OK)
	same(t, "at switches", got, []api.Gob{gob(1, 10, false), gob(0, 11, true), gob(2, 13, false), gob(1, 20, true), gob(0, 21, true), gob(2, 23, false), gob(1, 30, true), gob(2, 30, false), gob(0, 31, true)})
	m.Modes[0].Gob = 0
	got, e = forming.Gobs(m, []api.Switch{{Section: 1, Time: 10, Mode: 1}}, 0, 13)
	equal(t, "error", e, api.OK)
	same(t, "not of the mode before", got, []api.Gob{gob(0, 0, true), gob(1, 0, true), gob(2, 0, true), gob(0, 10, true), gob(2, 10, true), gob(1, 13, false)})
	// the longest and the last times
	got, e = forming.Gobs(turns(), nil, api.MaxClock-1000, api.MaxClock)
	equal(t, "error", e, api.OK)
	equal(t, "count", len(got), 200)
	equal(t, "last", got[199], gob(1, api.MaxClock-5, true))
	got, e = forming.Gobs(api.Machine{Cycle: 10, Offsets: []int{0}}, nil, 0, 1000)
	if e != api.OK || len(got) != 0 {
		t.Error("without modes", got, e)
	}
}

func TestGobsErrors(t *testing.T) {
	bad := []api.Switch{{Time: 1, Mode: 1}}
	for _, x := range []struct {
		l        []api.Switch
		from, to int
		e        api.Errno
	}{
		{nil, 0, 0, api.OK},
		{nil, 5, 1005, api.OK},
		{nil, api.MaxClock, api.MaxClock, api.OK},
		{nil, 5, 1006, api.ErrArg},
		{nil, 5, 4, api.ErrArg},
		{nil, -1, 4, api.ErrArg},
		{nil, 0, -1, api.ErrArg},
		{nil, api.MaxClock, api.MaxClock + 1, api.ErrArg},
		{nil, api.MaxClock + 1, api.MaxClock + 1, api.ErrArg},
		{nil, math.MaxInt, math.MaxInt, api.ErrArg},
		{nil, math.MinInt, math.MaxInt, api.ErrArg},
		{nil, math.MaxInt, math.MinInt, api.ErrArg},
		{nil, 0, math.MaxInt, api.ErrArg},
		{bad, -1, -1, api.ErrClash},
		{[]api.Switch{{Section: 2}}, -1, -1, api.ErrNone},
	} {
		got, e := forming.Gobs(turns(), x.l, x.from, x.to)
		if e != x.e || e != api.OK && len(got) > 0 {
			t.Errorf("%v: got %v, %v", x, got, e)
		}
	}
}

// TestGobsAlike: Gobs says the same as the chapter, time by time (P4.3).
func TestGobsAlike(t *testing.T) {
	r := rand.New(rand.NewSource(42))
	rejected := 0
	for range 400 {
		m := safeMachine(r)
		l := someLog(r, m, 6)
		from := r.Intn(6 * m.Cycle)
		to := from + r.Intn(8*m.Cycle)
		var want []api.Gob
		for at := from; at <= to; at++ {
			for section, offset := range m.Offsets {
				by, mode := modeAlike(l, section, rat(whole(at)))
				x := m.Modes[mode]
				if x.Gob < 0 || (at-offset-x.Gob)%m.Cycle != 0 {
					continue
				}
				kept := by < 0 || at-l[by].Time >= x.Reject*m.Cycle
				want = append(want, api.Gob{Section: section, Time: at, Kept: kept})
				if !kept {
					rejected++
				}
			}
		}
		got, e := forming.Gobs(m, l, from, to)
		equal(t, "error", e, api.OK)
		same(t, "gobs", got, want)
	}
	if rejected < 20 {
		t.Fatal("too few are rejected", rejected)
	}
}
