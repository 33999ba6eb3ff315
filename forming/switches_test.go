package forming_test

import (
	"math"
	"math/rand"
	"slices"
	"strconv"
	"testing"

	"cullet/api"
	"cullet/forming"
)

// unsafe is a machine that keeps its guards, but whose gobs are too close.
func unsafe() api.Machine {
	m := press()
	m.Spread = 60
	return m
}

// swing is a machine of one section: in its first mode a is out from 20 to 40, in the second one b is out from 50 to 70, and both are at home otherwise. In the third one a stays between.
func swing(slackA, slackB int) api.Machine {
	return api.Machine{
		Cycle: 100, Offsets: []int{0},
		Mechs: []api.Mech{{Name: "a", Slack: slackA, Most: 10}, {Name: "b", Slack: slackB, Most: 10}},
		Modes: []api.Mode{
			{Name: "x", Motions: [][]api.Knot{knots(0, 0, 19, 0, 20, 10, 40, 10, 41, 0), nil}, Gob: -1},
			{Name: "y", Motions: [][]api.Knot{nil, knots(0, 0, 49, 0, 50, 10, 70, 10, 71, 0)}, Gob: -1},
			{Name: "z", Motions: [][]api.Knot{knots(0, 5), nil}, Gob: -1},
		},
		Guards: []api.Guard{guard(api.GuSame, 0, span(10, 10), 1, span(10, 10))},
	}
}

// changes tells at which ticks a change is permitted, and that Change says the same.
func changes(t *testing.T, what string, m api.Machine, from, to int, want []int) {
	t.Helper()
	got, e := forming.Ticks(m, from, to)
	equal(t, what+": error", e, api.OK)
	same(t, what, got, want)
	for tick := range m.Cycle {
		yes, e := forming.Change(m, from, to, tick)
		equal(t, what+": Change, error", e, api.OK)
		equal(t, what+": Change at "+strconv.Itoa(tick), yes, slices.Contains(want, tick))
	}
}

// count returns the numbers from a to b.
func count(a, b int) []int { return many(b-a+1, func(i int) int { return a + i }) }

func TestTicks(t *testing.T) {
	changes(t, "run to rest", press(), 0, 1, []int{0, 80})
	changes(t, "rest to run", press(), 1, 0, []int{0, 80})
	changes(t, "run to itself", press(), 0, 0, count(0, 99))
	// from x to y: both are at home up to 19 and from 41 to 49, and from 71 on
	home := slices.Concat(count(0, 19), count(41, 49), count(71, 99))
	changes(t, "x to y", swing(0, 0), 0, 1, home)
	changes(t, "y to x", swing(0, 0), 1, 0, home)
	// a was last out at 40, and b is out next at 50, or at 150: 10 are too few if the slacks are 10 together
	changes(t, "x to y, slack 9", swing(4, 5), 0, 1, home)
	changes(t, "x to y, slack 10", swing(5, 5), 0, 1, slices.Concat(count(0, 19), count(71, 99)))
	// b was last out at -30, or at 70, and a is out next at 20, or at 120
	changes(t, "y to x, slack 49", swing(24, 25), 1, 0, home)
	changes(t, "y to x, slack 50", swing(25, 25), 1, 0, count(41, 49))
	changes(t, "x to z", swing(0, 0), 0, 2, nil) // a passes 5 between two ticks
	m := swing(0, 0)
	m.Modes[0].Motions[0] = knots(0, 0, 18, 0, 20, 10, 40, 10, 42, 0)
	changes(t, "x to z, at 5", m, 0, 2, []int{19, 41})
	m.Modes[2].Motions[0] = knots(0, 0, 60, 10)
	m.Modes[1].Motions[0] = knots(0, 10, 60, 0)
	m.Modes[0].Motions[0] = knots(0, 3)
	changes(t, "between places", m, 0, 2, []int{18, 88})
	changes(t, "at the same part of a place", m, 1, 2, []int{30, 80})
	m.Modes[1].Motions[0] = knots(0, 9, 60, 0)
	changes(t, "not quite the same place", m, 1, 2, nil)
}

// TestChangeAtTick: what is in its span just at the tick belongs to both sides (P4.3).
func TestChangeAtTick(t *testing.T) {
	m := swing(0, 0)
	m.Modes[0].Motions[0] = knots(0, 0, 19, 0, 20, 10, 40, 10, 45, 0)
	m.Modes[1].Motions[0] = knots(0, 0, 35, 0, 40, 10, 45, 0)
	// both have a at 10 at 40; b goes out in the second mode by itself from 45 on
	m.Modes[1].Motions[1] = knots(0, 0, 44, 0, 45, 10, 50, 0)
	changes(t, "a is out at the tick", m, 0, 1, slices.Concat(count(0, 19), count(40, 44), count(50, 99)))
	m.Mechs[0].Slack = 4
	changes(t, "slack 4", m, 0, 1, slices.Concat(count(0, 19), count(40, 44), count(50, 99)))
	m.Mechs[1].Slack = 1
	isSafe(t, "slack 5", m, false)
}

func TestTicksOfNothing(t *testing.T) {
	m := api.Machine{Cycle: 3, Modes: []api.Mode{{Name: "a", Gob: -1}, {Name: "b", Gob: 1}}}
	changes(t, "no mechanism, no section", m, 0, 1, []int{0, 1, 2})
}

// TestUnsafe: all functions of switches return ErrState for a machine that is not safe, ahead of all errors but Check's (P4.3).
func TestUnsafe(t *testing.T) {
	guarded := press()
	guarded.Guards[0].PA.Low = 0
	for _, m := range []api.Machine{unsafe(), guarded} {
		for _, c := range []call{good(), {from: -1, to: -1, tick: -1, l: make([]api.Switch, 999), section: -1, mode: -1, mech: -1, tm: -1, since: -1}} {
			c.m = m
			at, e := forming.Drive(m, c.l)
			if all := append(c.ofSwitches(), at, e); !onlyError(all, api.ErrState) {
				t.Error(all)
			}
		}
	}
}

func TestChangeErrors(t *testing.T) {
	for _, x := range []struct {
		from, to, tick int
		e, ticks       api.Errno
	}{
		{0, 2, 0, api.OK, api.OK},
		{2, 2, 99, api.OK, api.OK},
		{-1, 0, 0, api.ErrNone, api.ErrNone},
		{3, 0, 0, api.ErrNone, api.ErrNone},
		{0, -1, 0, api.ErrNone, api.ErrNone},
		{0, 3, 0, api.ErrNone, api.ErrNone},
		{0, math.MaxInt, -1, api.ErrNone, api.ErrNone},
		{math.MinInt, 0, 100, api.ErrNone, api.ErrNone},
		{0, 1, -1, api.ErrArg, api.OK},
		{0, 1, 100, api.ErrArg, api.OK},
		{0, 1, math.MinInt, api.ErrArg, api.OK},
	} {
		yes, e := forming.Change(press(), x.from, x.to, x.tick)
		equal(t, "Change", e, x.e)
		equal(t, "Change, yes", yes, x.e == api.OK)
		ticks, e := forming.Ticks(press(), x.from, x.to)
		equal(t, "Ticks", e, x.ticks)
		equal(t, "Ticks, some", len(ticks) > 0, x.ticks == api.OK)
	}
	_, e := forming.Change(api.Machine{Cycle: 1}, 0, 0, 0)
	equal(t, "no mode", e, api.ErrNone)
}

// joins tells whether a change is permitted, as the chapter says it of the line of all times, quarter by quarter.
func joins(m api.Machine, from, to, tick int) bool {
	for mech := range m.Mechs {
		if placeAt(m, from, mech, quarters*tick).Cmp(placeAt(m, to, mech, quarters*tick)) != 0 {
			return false
		}
	}
	for _, g := range m.Guards {
		if g.Kind != api.GuSame {
			continue
		}
		line := func(mech int, s api.Span) []bool {
			first, second := inQuarters(m, from, mech, s), inQuarters(m, to, mech, s)
			n := len(first)
			return many(5*n, func(i int) bool { // from two cycles ahead of the tick's to two behind it
				if i <= 2*n+quarters*tick {
					return first[i%n]
				}
				return second[i%n]
			})
		}
		a, b := line(g.A, g.PA), line(g.B, g.PB)
		slack := quarters * (m.Mechs[g.A].Slack + m.Mechs[g.B].Slack)
		for i := range a {
			for j := max(0, i-slack); a[i] && j <= min(i+slack, len(b)-1); j++ {
				if b[j] {
					return false
				}
			}
		}
	}
	return true
}

// TestChangeAlike: Ticks and Change say the same as the chapter (P4.3).
func TestChangeAlike(t *testing.T) {
	r := rand.New(rand.NewSource(31))
	yes, guarded := 0, 0
	for range 400 {
		m := safeMachine(r)
		from, to := r.Intn(len(m.Modes)), r.Intn(len(m.Modes))
		var want []int
		for tick := range m.Cycle {
			if joins(m, from, to, tick) {
				want = append(want, tick)
				continue
			}
			free := m
			free.Guards = nil
			if joins(free, from, to, tick) {
				guarded++
			}
		}
		changes(t, "change", m, from, to, want)
		if from != to {
			yes += len(want)
		}
	}
	if yes < 100 || guarded < 20 {
		t.Fatal("the changes are not of all kinds", yes, guarded)
	}
}

func TestDrive(t *testing.T) {
	s := func(section, time, mode int) api.Switch {
		return api.Switch{Section: section, Time: time, Mode: mode}
	}
	full := many(api.MaxSwitches+1, func(i int) api.Switch { return s(0, i*100, 0) })
	for what, x := range map[string]struct {
		l  []api.Switch
		at int
		e  api.Errno
	}{
		"none":               {nil, 0, api.OK},
		"one":                {[]api.Switch{s(0, 80, 1)}, 1, api.OK},
		"later cycle":        {[]api.Switch{s(0, 999999980, 1)}, 1, api.OK},
		"last time":          {[]api.Switch{s(0, api.MaxClock, 1)}, 1, api.OK},
		"with the offset":    {[]api.Switch{s(1, 30, 1), s(1, 150, 0)}, 2, api.OK},
		"without the offset": {[]api.Switch{s(1, 80, 1)}, 0, api.ErrClash},
		"to itself":          {[]api.Switch{s(0, 33, 0), s(0, 133, 0)}, 2, api.OK},
		"at once":            {[]api.Switch{s(0, 50, 0), s(1, 50, 1)}, 2, api.OK},
		"most":               {full[:api.MaxSwitches], api.MaxSwitches, api.OK},
		"too many":           {full, 0, api.ErrLimit},
		"too many, wrong":    {append([]api.Switch{s(9, 0, 0)}, full...), 0, api.ErrLimit},
		"section below":      {[]api.Switch{s(0, 80, 1), s(-1, 300, 0)}, 1, api.ErrNone},
		"section above":      {[]api.Switch{s(0, 80, 1), s(2, -1, 0)}, 1, api.ErrNone},
		"mode below":         {[]api.Switch{s(0, 80, 1), s(0, -1, -1)}, 1, api.ErrNone},
		"mode above":         {[]api.Switch{s(0, 80, 1), s(0, 81, 3)}, 1, api.ErrNone},
		"time below":         {[]api.Switch{s(0, -1, 1)}, 0, api.ErrArg},
		"time above":         {[]api.Switch{s(0, 80, 1), s(0, api.MaxClock+1, 1)}, 1, api.ErrArg},
		"time far above":     {[]api.Switch{s(0, math.MaxInt, 1)}, 0, api.ErrArg},
		"time falls":         {[]api.Switch{s(0, 80, 1), s(1, 79, 1)}, 1, api.ErrState},
		"too soon":           {[]api.Switch{s(0, 80, 1), s(0, 179, 0)}, 1, api.ErrState},
		"soon enough":        {[]api.Switch{s(0, 80, 1), s(0, 180, 0)}, 2, api.OK},
		"too soon, between":  {[]api.Switch{s(0, 80, 1), s(1, 130, 1), s(0, 179, 1)}, 2, api.ErrState},
		"soon, between":      {[]api.Switch{s(0, 80, 1), s(1, 130, 1), s(0, 180, 1)}, 3, api.OK},
		"not permitted":      {[]api.Switch{s(0, 81, 1)}, 0, api.ErrClash},
		"by the last mode":   {[]api.Switch{s(0, 80, 1), s(0, 233, 2)}, 2, api.OK},
		"not by the first":   {[]api.Switch{s(0, 80, 1), s(0, 255, 2)}, 1, api.ErrClash},
		"the first of two":   {[]api.Switch{s(0, 81, 1), s(9, 80, 1)}, 0, api.ErrClash},
	} {
		at, e := forming.Drive(press(), x.l)
		equal(t, what+": error", e, x.e)
		equal(t, what, at, x.at)
	}
	_, e := forming.Drive(api.Machine{Cycle: 1, Offsets: []int{0}}, []api.Switch{s(0, 0, 0)})
	equal(t, "no mode", e, api.ErrNone)
	_, e = forming.Drive(api.Machine{Cycle: 1, Modes: []api.Mode{{Name: "a"}}}, []api.Switch{s(0, 0, 0)})
	equal(t, "no section", e, api.ErrNone)
}

// driveAlike is Drive of a machine that is safe, as the chapter says it.
func driveAlike(m api.Machine, l []api.Switch) (int, api.Errno) {
	for i, s := range l {
		if s.Section < 0 || s.Section >= len(m.Offsets) || s.Mode < 0 || s.Mode >= len(m.Modes) {
			return i, api.ErrNone
		}
		if s.Time < 0 || s.Time > api.MaxClock {
			return i, api.ErrArg
		}
		mode := 0
		for j, before := range l[:i] {
			if j == i-1 && before.Time > s.Time || before.Section == s.Section && s.Time-before.Time < m.Cycle {
				return i, api.ErrState
			}
			if before.Section == s.Section {
				mode = before.Mode
			}
		}
		tick := (s.Time - m.Offsets[s.Section] + m.Cycle) % m.Cycle
		if !joins(m, mode, s.Mode, tick) {
			return i, api.ErrClash
		}
	}
	return len(l), api.OK
}

// TestDriveAlike: Drive says the same as the chapter (P4.3).
func TestDriveAlike(t *testing.T) {
	r := rand.New(rand.NewSource(32))
	found := map[api.Errno]int{}
	for range 400 {
		m := safeMachine(r)
		l := someLog(r, m, 4)
		t0 := 0
		if len(l) > 0 {
			t0 = l[len(l)-1].Time
		}
		for range r.Intn(3) {
			t0 += r.Intn(2*m.Cycle) - r.Intn(3)
			l = append(l, api.Switch{Section: r.Intn(len(m.Offsets)), Time: t0, Mode: r.Intn(len(m.Modes) + r.Intn(2))})
		}
		at, e := forming.Drive(m, l)
		wantAt, want := driveAlike(m, l)
		equal(t, "error", e, want)
		equal(t, "at", at, wantAt)
		found[e]++
	}
	for _, e := range []api.Errno{api.OK, api.ErrNone, api.ErrState, api.ErrClash} {
		if found[e] < 10 {
			t.Fatal("the logs are not of all kinds", found)
		}
	}
}

func TestSoonest(t *testing.T) {
	l := []api.Switch{{Section: 0, Time: 180, Mode: 1}, {Section: 1, Time: 250, Mode: 2}}
	for what, x := range map[string]struct {
		l             []api.Switch
		section, mode int
		t, at         int
		found         bool
	}{
		"at once":             {nil, 0, 1, 0, 0, true},
		"next":                {nil, 0, 1, 1, 80, true},
		"just then":           {nil, 0, 1, 80, 80, true},
		"next cycle":          {nil, 0, 1, 81, 100, true},
		"with the offset":     {nil, 1, 1, 0, 30, true},
		"over the offset":     {nil, 1, 1, 31, 50, true},
		"behind the last":     {l, 1, 2, 0, 350, true},
		"behind another's":    {l[1:], 0, 0, 7, 250, true},
		"behind its own":      {l[:1], 0, 0, 7, 280, true},
		"its own, then wait":  {l[:1], 0, 0, 281, 300, true},
		"far":                 {l, 0, 1, 777777, 777777, true},
		"last time":           {nil, 0, 1, api.MaxClock, api.MaxClock, true},
		"at the very last":    {nil, 0, 1, api.MaxClock - 19, api.MaxClock, true},
		"no time left":        {nil, 1, 1, api.MaxClock - 49, 0, false},
		"time for it":         {nil, 1, 1, api.MaxClock - 50, api.MaxClock - 50, true},
		"no time for its own": {[]api.Switch{{Section: 0, Time: api.MaxClock - 20, Mode: 1}}, 0, 1, 0, 0, false},
	} {
		at, found, e := forming.Soonest(press(), x.l, x.section, x.mode, x.t)
		equal(t, what+": error", e, api.OK)
		equal(t, what, at, x.at)
		equal(t, what+": found", found, x.found)
	}
	at, found, e := forming.Soonest(swing(0, 0), nil, 0, 2, 0)
	if e != api.OK || found || at != 0 {
		t.Error("never", at, found, e)
	}
}

func TestSoonestErrors(t *testing.T) {
	full := many(api.MaxSwitches, func(i int) api.Switch { return api.Switch{Time: i * 100} })
	bad := []api.Switch{{Time: 5}, {Time: 6}}
	for _, x := range []struct {
		l                []api.Switch
		section, mode, t int
		e                api.Errno
	}{
		{nil, 1, 2, api.MaxClock, api.OK},
		{full[:127], 1, 2, 0, api.OK},
		{bad, -1, -1, -1, api.ErrState},
		{append(full, bad...), -1, -1, -1, api.ErrLimit},
		{full, -1, 0, -1, api.ErrNone},
		{full, 2, 0, -1, api.ErrNone},
		{full, 0, -1, -1, api.ErrNone},
		{full, 0, 3, -1, api.ErrNone},
		{full, 0, 0, -1, api.ErrArg},
		{full, 0, 0, api.MaxClock + 1, api.ErrArg},
		{full, 0, 0, math.MinInt, api.ErrArg},
		{full, 0, 0, 0, api.ErrLimit},
	} {
		at, found, e := forming.Soonest(press(), x.l, x.section, x.mode, x.t)
		if e != x.e || e != api.OK && (at != 0 || found) {
			t.Errorf("%v: got %v, %v, %v", x, at, found, e)
		}
	}
}

// TestSoonestAlike: Soonest is the earliest time at which Drive allows it, time by time (P4.3).
func TestSoonestAlike(t *testing.T) {
	r := rand.New(rand.NewSource(33))
	never := 0
	for range 300 {
		m := safeMachine(r)
		l := someLog(r, m, 4)
		s := api.Switch{Section: r.Intn(len(m.Offsets)), Mode: r.Intn(len(m.Modes))}
		from := r.Intn(6 * m.Cycle)
		last := from + 2*m.Cycle
		if len(l) > 0 {
			last = max(last, l[len(l)-1].Time+3*m.Cycle)
		}
		want, is := 0, false
		for s.Time = from; s.Time <= last && !is; s.Time++ {
			if _, e := forming.Drive(m, append(slices.Clone(l), s)); e == api.OK {
				want, is = s.Time, true
			}
		}
		at, found, e := forming.Soonest(m, l, s.Section, s.Mode, from)
		equal(t, "error", e, api.OK)
		equal(t, "at", at, want)
		equal(t, "found", found, is)
		if !is {
			never++
		}
	}
	if never < 20 {
		t.Fatal("too few that are never permitted", never)
	}
}
