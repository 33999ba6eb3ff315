package forming_test

import (
	"math/rand"
	"slices"
	"testing"

	"cullet/api"
	"cullet/forming"
)

// pair is a machine of two mechanisms and one mode: one is out from 10 to 20, the other one from 30 to 40, in cycles of 100.
func pair(slackA, slackB int) api.Machine {
	return api.Machine{
		Cycle: 100, Offsets: []int{0},
		Mechs: []api.Mech{{Name: "a", Slack: slackA, Most: 1}, {Name: "b", Slack: slackB, Most: 1}},
		Modes: []api.Mode{{Name: "run", Motions: [][]api.Knot{knots(0, 0, 5, 0, 10, 5, 20, 5, 25, 0), knots(0, 0, 25, 0, 30, 5, 40, 5, 45, 0)}, Gob: -1}},
		Guards: []api.Guard{
			guard(api.GuSame, 0, span(5, 9), 1, span(5, 9)),
		},
	}
}

func isSafe(t *testing.T, what string, m api.Machine, want bool) {
	t.Helper()
	got, e := forming.Safe(m)
	equal(t, what+": error", e, api.OK)
	equal(t, what+": safe", got, want)
}

// breaks tells that just these guards are broken.
func breaks(t *testing.T, what string, m api.Machine, want ...api.Guard) {
	t.Helper()
	got, e := forming.Broken(m)
	equal(t, what+": error", e, api.OK)
	same(t, what, got, want)
	isSafe(t, what, m, len(want) == 0)
}

// TestSlack: a guard is kept if the gap is greater than both slacks together (P4.2).
func TestSlack(t *testing.T) {
	breaks(t, "no slack", pair(0, 0))
	breaks(t, "little slack", pair(4, 5))
	bad := pair(0, 0).Guards[0]
	breaks(t, "slack as great as the gap", pair(5, 5), bad)
	breaks(t, "slack of a alone", pair(10, 0), bad)
	breaks(t, "slack of b alone", pair(0, 10), bad)
	m := pair(5, 5)
	m.Guards[0].PA = span(6, 9)
	breaks(t, "a is never there", m)
	m.Guards[0].PA, m.Guards[0].PB = span(5, 9), span(9, 5)
	breaks(t, "no place of b", m)
	// b is at 4 and above a tick earlier: the gap is 9; from 29 1/3 on it is more than 9
	m = pair(4, 5)
	m.Guards[0].PB = span(4, 9)
	breaks(t, "wider span", m, m.Guards[0])
	m.Mechs[1].Most = 3
	m.Modes[0].Motions[1] = knots(0, 0, 28, 0, 30, 3, 40, 3, 45, 0)
	m.Guards[0].PB = span(2, 9)
	breaks(t, "a third of a tick", m)
	m.Guards[0].PB = span(1, 9)
	breaks(t, "two thirds of a tick", m, m.Guards[0])
	// over the end of the cycle
	m = pair(0, 0)
	m.Modes[0].Motions = [][]api.Knot{knots(0, 5, 5, 5, 10, 0, 90, 0, 95, 5), knots(0, 0, 5, 0, 10, 5, 85, 5, 90, 0)}
	breaks(t, "over the end", m)
	m.Mechs[0].Slack, m.Mechs[1].Slack = 2, 2
	breaks(t, "over the end, with slack", m)
	m.Mechs[1].Slack = 3
	breaks(t, "over the end, with more slack", m, m.Guards[0])
}

// TestGuardOfOne: a guard may speak of one mechanism twice (P4.2).
func TestGuardOfOne(t *testing.T) {
	m := pair(2, 0)
	m.Guards = []api.Guard{guard(api.GuSame, 0, span(5, 5), 0, span(0, 0))}
	breaks(t, "places far apart", m)
	m.Mechs[0].Slack = 3
	breaks(t, "both slacks are the same one's", m, m.Guards[0])
	m.Guards = []api.Guard{guard(api.GuSame, 0, span(1, 3), 0, span(3, 4))}
	m.Mechs[0].Slack = 0
	breaks(t, "the same place", m, m.Guards[0])
}

// TestNext: a guard of neighbours is kept by each section and the next one, in all pairs of modes (P4.2).
func TestNext(t *testing.T) {
	m := pair(0, 0)
	m.Guards[0].Kind = api.GuNext
	for what, x := range map[string]struct {
		offsets []int
		broken  bool
	}{
		"none":                          {nil, false},
		"one":                           {[]int{50}, false},
		"together":                      {[]int{50, 50}, false},
		"b above a":                     {[]int{20, 0}, true},
		"a above b":                     {[]int{0, 20}, false},
		"touch":                         {[]int{10, 0}, true},
		"nearly":                        {[]int{9, 0}, false},
		"touch behind":                  {[]int{30, 0}, true},
		"nearly behind":                 {[]int{31, 0}, false},
		"over the end":                  {[]int{10, 90}, true},
		"over the end, just not":        {[]int{10, 79}, false},
		"later sections":                {[]int{0, 50, 30}, true},
		"sections that are not next":    {[]int{20, 60, 0}, false},
		"not the last one to the first": {[]int{0, 60, 20}, false},
	} {
		m.Offsets = x.offsets
		want := []api.Guard{}
		if x.broken {
			want = m.Guards
		}
		breaks(t, what, m, want...)
	}
	m.Guards[0].Kind = api.GuSame
	m.Offsets = nil
	m.Guards[0].PA = span(0, 9)
	breaks(t, "no section, but modes", m, m.Guards[0])
	m.Modes = nil
	m.Offsets = []int{0, 1}
	m.Guards = append(m.Guards, guard(api.GuNext, 0, span(0, 9), 1, span(0, 9)))
	breaks(t, "no mode", m)
}

// TestModes: each mode keeps the guards of a section, and each one beside each one those of neighbours (P4.2).
func TestModes(t *testing.T) {
	home, out := knots(0, 0), knots(0, 5)
	m := pair(0, 0)
	m.Offsets = []int{0, 0}
	m.Modes = []api.Mode{{Name: "x", Motions: [][]api.Knot{home, out}, Gob: -1}, {Name: "y", Motions: [][]api.Knot{home, home}, Gob: -1}}
	inSame, inNext := m.Guards[0], m.Guards[0]
	inNext.Kind = api.GuNext
	m.Guards = []api.Guard{inSame, inNext}
	breaks(t, "a is never out", m)
	m.Modes = append(m.Modes, api.Mode{Name: "z", Motions: [][]api.Knot{out, home}, Gob: -1})
	breaks(t, "a in one mode, b in another one", m, inNext)
	m.Offsets = []int{0}
	breaks(t, "one section", m)
	m.Offsets = []int{0, 99}
	m.Modes[0] = api.Mode{Name: "x", Motions: [][]api.Knot{out, out}, Gob: -1}
	breaks(t, "both in one mode", m, inSame, inNext)
}

// TestBrokenOrder: broken guards come in their order, of equal ones only the first (P4.2).
func TestBrokenOrder(t *testing.T) {
	bad := guard(api.GuSame, 0, span(5, 9), 1, span(0, 9))
	worse := guard(api.GuSame, 0, span(0, 9), 1, span(0, 9))
	next := guard(api.GuNext, 0, span(0, 9), 1, span(0, 9))
	good := pair(0, 0).Guards[0]
	m := pair(0, 0)
	m.Offsets = []int{7, 8}
	m.Guards = []api.Guard{worse, good, bad, worse, next, good, bad, next}
	breaks(t, "order", m, worse, bad, next)
	bad.PB.Low = 1
	m.Guards = []api.Guard{good, bad, good}
	m.Mechs[0].Slack = 4
	breaks(t, "not quite equal", m)
}

// TestSpread: gobs of different sections are apart, the lesser way round, in all pairs of modes (P4.2, P4.6).
func TestSpread(t *testing.T) {
	run := func(gobs ...int) []api.Mode {
		return many(len(gobs), func(i int) api.Mode { return api.Mode{Name: "m" + string(rune('a'+i)), Gob: gobs[i]} })
	}
	for what, x := range map[string]struct {
		spread  int
		offsets []int
		modes   []api.Mode
		safe    bool
	}{
		"apart":                  {30, []int{0, 30}, run(5), true},
		"not quite":              {31, []int{0, 30}, run(5), false},
		"the other way round":    {30, []int{0, 70}, run(5), true},
		"not quite round":        {31, []int{0, 70}, run(5), false},
		"over the end":           {20, []int{10, 90}, run(99), true},
		"over the end, not":      {21, []int{90, 10}, run(99), false},
		"at once":                {0, []int{9, 9}, run(5), true},
		"at once, spread":        {1, []int{9, 9}, run(5), false},
		"half a cycle":           {50, []int{9, 59}, run(5), true},
		"more than half a cycle": {51, []int{9, 59}, run(5), false},
		"one section":            {100, []int{9}, run(5, 6), true},
		"no gobs":                {100, []int{9, 9}, run(-1, -1), true},
		"no modes":               {100, []int{9, 9}, nil, true},
		"not next":               {30, []int{0, 35, 10}, run(5), false},
		"first and last":         {30, []int{0, 35, 75}, run(5), false},
		"three":                  {30, []int{0, 35, 70}, run(5), true},
		"two modes":              {30, []int{0, 50}, run(5, 25), true},
		"two modes, not":         {31, []int{0, 50}, run(5, 25), false},
		"two modes, other":       {31, []int{50, 0}, run(5, 25), false},
		"modes of one alone":     {50, []int{0}, run(5, 6), true},
		"gobs of one mode":       {50, []int{0, 50}, run(5, -1, -1), true},
	} {
		m := api.Machine{Cycle: 100, Spread: x.spread, Offsets: x.offsets, Modes: x.modes}
		isSafe(t, what, m, x.safe)
		broken, e := forming.Broken(m) // gobs are no guards
		if e != api.OK || len(broken) > 0 {
			t.Error(what, broken, e)
		}
	}
}

// inQuarters are the quarters of ticks of a cycle at which a mechanism is in a span, in a mode.
func inQuarters(m api.Machine, mode, mech int, s api.Span) []bool {
	return many(quarters*m.Cycle, func(q int) bool { return inSpan(placeAt(m, mode, mech, q), s) })
}

// meet tells whether two lists of quarters, the second one later by a shift, come as close as some slack.
func meet(a, b []bool, shift, slack int) bool {
	n := len(a)
	for i := range a {
		for d := -slack * quarters; a[i] && d <= slack*quarters; d++ {
			if b[(((i+d-shift*quarters)%n)+n)%n] {
				return true
			}
		}
	}
	return false
}

// keeps tells whether a guard is kept, as the chapter says it, quarter by quarter.
func keeps(m api.Machine, g api.Guard) bool {
	slack := m.Mechs[g.A].Slack + m.Mechs[g.B].Slack
	for one := range m.Modes {
		for other := range m.Modes {
			a, b := inQuarters(m, one, g.A, g.PA), inQuarters(m, other, g.B, g.PB)
			if g.Kind == api.GuSame {
				if one == other && meet(a, b, 0, slack) {
					return false
				}
				continue
			}
			for i := 1; i < len(m.Offsets); i++ {
				if meet(a, b, m.Offsets[i]-m.Offsets[i-1], slack) {
					return false
				}
			}
		}
	}
	return true
}

// gobsApart tells whether the gobs of a machine are apart, cycle by cycle.
func gobsApart(m api.Machine) bool {
	for i, one := range m.Offsets {
		for _, other := range m.Offsets[:i] {
			for _, a := range m.Modes {
				for _, b := range m.Modes {
					for turn := -3; turn <= 3 && a.Gob >= 0 && b.Gob >= 0; turn++ {
						if d := one + a.Gob - other - b.Gob + turn*m.Cycle; max(d, -d) < m.Spread {
							return false
						}
					}
				}
			}
		}
	}
	return true
}

// TestSafeAlike: Broken and Safe say the same as the chapter of all places at all quarters of ticks (P4.2).
func TestSafeAlike(t *testing.T) {
	r := rand.New(rand.NewSource(21))
	safe, broken := 0, 0
	for range 1500 {
		m := someMachine(r)
		var want []api.Guard
		for _, g := range m.Guards {
			if !keeps(m, g) && !slices.Contains(want, g) {
				want = append(want, g)
			}
		}
		got, e := forming.Broken(m)
		equal(t, "error", e, api.OK)
		same(t, "broken", got, want)
		isSafe(t, "machine", m, len(want) == 0 && gobsApart(m))
		if len(m.Guards) > 0 && len(want) == 0 {
			safe++
		}
		broken += len(want)
	}
	if safe < 100 || broken < 100 {
		t.Fatal("the machines are not of all kinds", safe, broken)
	}
}
