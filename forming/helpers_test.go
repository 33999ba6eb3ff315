package forming_test

import (
	"math/big"
	"math/rand"
	"reflect"
	"slices"
	"testing"

	"cullet/api"
	"cullet/forming"
)

func span(low, high int) api.Span { return api.Span{Low: low, High: high} }

func ratio(num, den int) api.Ratio { return api.Ratio{Num: num, Den: den} }
func whole(n int) api.Ratio        { return ratio(n, 1) }

// knots are knots from pairs of a tick and a place.
func knots(pairs ...int) []api.Knot {
	var all []api.Knot
	for p := range slices.Chunk(pairs, 2) {
		all = append(all, api.Knot{At: p[0], Place: p[1]})
	}
	return all
}

// ticks are stretches from pairs of ticks.
func ticks(pairs ...int) []api.Stretch {
	var all []api.Stretch
	for p := range slices.Chunk(pairs, 2) {
		all = append(all, api.Stretch{From: whole(p[0]), To: whole(p[1])})
	}
	return all
}

// chart is the motion of the chapter's examples.
func chart() []api.Knot { return knots(0, 0, 20, 100, 60, 100, 80, 0) }

func guard(kind api.GuardKind, a int, pa api.Span, b int, pb api.Span) api.Guard {
	return api.Guard{Kind: kind, A: a, B: b, PA: pa, PB: pb}
}

// press is a machine that is safe: while its plunger is in, its arm is not out, and two neighbours do not have their arms out. The arm is out from 82 1/2 to 97 1/2.
func press() api.Machine {
	return api.Machine{
		Cycle: 100, Offsets: []int{0, 50}, Spread: 30,
		Mechs: []api.Mech{{Name: "plunger", Home: 0, Slack: 2, Most: 5}, {Name: "arm", Home: 0, Slack: 3, Most: 20}},
		Modes: []api.Mode{
			{Name: "run", Motions: [][]api.Knot{chart(), knots(0, 0, 80, 0, 85, 100, 95, 100)}, Gob: 5, Reject: 2},
			{Name: "rest", Motions: [][]api.Knot{nil, nil}, Gob: -1},
			{Name: "swab", Motions: [][]api.Knot{knots(0, 0, 80, 0), knots(0, 0, 50, 0, 60, 100)}, Gob: 15, Reject: 1},
		},
		Guards: []api.Guard{
			guard(api.GuSame, 0, span(50, 100), 1, span(50, 100)),
			guard(api.GuNext, 1, span(90, 100), 1, span(90, 100)),
		},
	}
}

func equal(t *testing.T, what string, got, want any) {
	t.Helper()
	if !reflect.DeepEqual(got, want) {
		t.Errorf("%s: got %v, want %v", what, got, want)
	}
}

// same compares lists, of which nil is an empty one.
func same[T comparable](t *testing.T, what string, got, want []T) {
	t.Helper()
	if !slices.Equal(got, want) {
		t.Errorf("%s: got %v, want %v", what, got, want)
	}
}

func rat(r api.Ratio) *big.Rat { return big.NewRat(int64(r.Num), int64(r.Den)) }

func fromRat(r *big.Rat) api.Ratio {
	return ratio(int(r.Num().Int64()), int(r.Denom().Int64()))
}

// position is where a motion is at a time, as the chapter says it.
func position(cycle, home int, motion []api.Knot, t *big.Rat) *big.Rat {
	if len(motion) == 0 {
		return big.NewRat(int64(home), 1)
	}
	turns := new(big.Rat).Quo(t, rat(whole(cycle)))
	floor := new(big.Int).Div(turns.Num(), turns.Denom())
	full := new(big.Rat).Mul(new(big.Rat).SetInt(floor), rat(whole(cycle)))
	t = new(big.Rat).Sub(t, full)
	round := append(slices.Clone(motion), api.Knot{At: cycle, Place: motion[0].Place})
	for i := range motion {
		a, b := round[i], round[i+1]
		if t.Cmp(rat(whole(b.At))) <= 0 {
			p := new(big.Rat).Sub(t, rat(whole(a.At)))
			p.Mul(p, big.NewRat(int64(b.Place-a.Place), int64(b.At-a.At)))
			return p.Add(p, rat(whole(a.Place)))
		}
	}
	panic("a time behind the cycle")
}

func inSpan(p *big.Rat, s api.Span) bool {
	return p.Cmp(rat(whole(s.Low))) >= 0 && p.Cmp(rat(whole(s.High))) <= 0
}

func inStretch(t *big.Rat, all []api.Stretch) bool {
	return slices.ContainsFunc(all, func(s api.Stretch) bool { return t.Cmp(rat(s.From)) >= 0 && t.Cmp(rat(s.To)) <= 0 })
}

// someMotion is a motion that may be, or none.
func someMotion(r *rand.Rand, cycle, most int, place func() int) []api.Knot {
	var motion []api.Knot
	count := min(r.Intn(most+1), cycle)
	if count == 0 {
		return nil
	}
	at := append([]int{0}, r.Perm(cycle - 1)[:count-1]...)
	for i := range at[1:] {
		at[i+1]++
	}
	slices.Sort(at)
	for _, t := range at {
		motion = append(motion, api.Knot{At: t, Place: place()})
	}
	return motion
}

// The machines of some: all that happens in them happens at quarters of ticks, as two places differ by 0, 2 or 4.
const quarters = 4

func someMachine(r *rand.Rand) api.Machine {
	place := func() int { return 2 * r.Intn(3) }
	m := api.Machine{Cycle: 4 + r.Intn(9)}
	m.Spread = r.Intn(m.Cycle/3 + 1)
	for range r.Intn(4) {
		m.Offsets = append(m.Offsets, r.Intn(m.Cycle))
	}
	for i := range 1 + r.Intn(3) {
		m.Mechs = append(m.Mechs, api.Mech{Name: string(rune('a' + i)), Home: place(), Slack: r.Intn(2) * r.Intn(m.Cycle/4+1), Most: 4})
	}
	for i := range 1 + r.Intn(3) {
		mode := api.Mode{Name: string(rune('p' + i)), Gob: r.Intn(m.Cycle+1) - 1, Reject: r.Intn(3)}
		if r.Intn(3) > 0 && i > 0 {
			mode.Gob = m.Modes[0].Gob
		}
		for range m.Mechs {
			mode.Motions = append(mode.Motions, someMotion(r, m.Cycle, 4, place))
		}
		m.Modes = append(m.Modes, mode)
	}
	spot := func() api.Span {
		n := r.Intn(5)
		return span(n, min(4, n+r.Intn(2)*r.Intn(3)))
	}
	for range r.Intn(3) {
		m.Guards = append(m.Guards, guard(api.GuSame+api.GuardKind(r.Intn(2)), r.Intn(len(m.Mechs)), spot(), r.Intn(len(m.Mechs)), spot()))
	}
	return m
}

// someSwing is a machine whose mechanisms are mostly at home, and else go out and back once in a cycle.
func someSwing(r *rand.Rand) api.Machine {
	m := api.Machine{Cycle: 8 + r.Intn(7), Offsets: []int{0, 3, 5}[:1+r.Intn(3)]}
	for i := range 2 {
		m.Mechs = append(m.Mechs, api.Mech{Name: string(rune('a' + i)), Slack: m.Cycle/4 - r.Intn(2), Most: 4})
	}
	swing := func() []api.Knot {
		out := 1 + r.Intn(m.Cycle-4)
		back := out + 2 + r.Intn(min(3, m.Cycle-out-3))
		return knots(0, 0, out, 0, out+1, 4, back, 4, back+1, 0)[:5-r.Intn(2)]
	}
	for i := range 2 + r.Intn(2) {
		motions := make([][]api.Knot, 2)
		motions[i%2] = swing()
		if r.Intn(4) == 0 {
			motions[1-i%2] = swing()
		}
		m.Modes = append(m.Modes, api.Mode{Name: string(rune('p' + i)), Motions: motions, Gob: -1})
	}
	for range 1 + r.Intn(2) {
		m.Guards = append(m.Guards, guard(api.GuSame, r.Intn(2), span(1+r.Intn(4), 4), r.Intn(2), span(1+r.Intn(4), 4)))
		m.Guards[0].A, m.Guards[0].B = 0, 1
	}
	return m
}

// safeMachine is a machine that is safe, has sections and guards.
func safeMachine(r *rand.Rand) api.Machine {
	for {
		m := someMachine(r)
		if r.Intn(4) == 0 {
			m = someSwing(r)
		}
		safe, e := forming.Safe(m)
		if e != api.OK {
			panic(e)
		}
		if safe && len(m.Offsets) > 0 && len(m.Guards) > 0 {
			return m
		}
	}
}

// someLog is a log that Drive allows, and that is full of switches, if there can be some.
func someLog(r *rand.Rand, m api.Machine, most int) []api.Switch {
	var l []api.Switch
	t := 0
	for range r.Intn(most + 1) {
		s := api.Switch{Section: r.Intn(len(m.Offsets)), Mode: r.Intn(len(m.Modes))}
		t += r.Intn(m.Cycle)
		at, found, e := forming.Soonest(m, l, s.Section, s.Mode, t)
		if e != api.OK {
			panic(e)
		}
		if found {
			s.Time = at
			l = append(l, s)
		}
	}
	return l
}

// placeAt is where a mechanism is in a mode at so many quarters of ticks of its section's cycle.
func placeAt(m api.Machine, mode, mech, quarter int) *big.Rat {
	return position(m.Cycle, m.Mechs[mech].Home, m.Modes[mode].Motions[mech], big.NewRat(int64(quarter), quarters))
}

// call is arguments of all functions of the package.
type call struct {
	m                                       api.Machine
	l                                       []api.Switch
	cycle, home, shift                      int
	motion                                  []api.Knot
	at                                      api.Ratio
	s                                       api.Span
	a, b                                    []api.Stretch
	from, to, tick, section, mech, mode, tm int
	since, till                             int
	text                                    string
}

// good are arguments with which nothing is wrong.
func good() call {
	text, e := forming.Print(press())
	if e != api.OK {
		panic(e)
	}
	return call{
		m: press(), l: []api.Switch{{Section: 0, Time: 180, Mode: 1}, {Section: 1, Time: 250, Mode: 2}},
		cycle: 100, home: 3, shift: 15, motion: chart(), at: ratio(1, 3), s: span(50, 100),
		a: ticks(10, 70, 80, 80), b: ticks(80, 100),
		from: 0, to: 1, tick: 80, section: 1, mech: 1, mode: 0, tm: 300, since: 90, till: 400, text: text,
	}
}

// ofMotions are the results of the functions that take motions and stretches.
func (c call) ofMotions() []any {
	var all []any
	place, e := forming.Where(c.cycle, c.home, c.motion, c.at)
	all = append(all, place, e)
	stretches, e := forming.Stretches(c.cycle, c.home, c.motion, c.s)
	all = append(all, stretches, e)
	gap, none, e := forming.Gap(c.cycle, c.a, c.b, c.shift)
	return append(all, gap, none, e)
}

// ofMachine are the results of the functions that take a machine alone, or a text.
func (c call) ofMachine() []any {
	all := []any{forming.Check(c.m)}
	m, line, e := forming.Parse(c.text)
	all = append(all, m, line, e)
	text, e := forming.Print(c.m)
	all = append(all, text, e)
	broken, e := forming.Broken(c.m)
	all = append(all, broken, e)
	safe, e := forming.Safe(c.m)
	return append(all, safe, e)
}

// ofSwitches are the results of the other functions, but for Drive.
func (c call) ofSwitches() []any {
	var all []any
	change, e := forming.Change(c.m, c.from, c.to, c.tick)
	all = append(all, change, e)
	ticks, e := forming.Ticks(c.m, c.from, c.to)
	all = append(all, ticks, e)
	place, e := forming.Place(c.m, c.l, c.section, c.mech, c.at)
	all = append(all, place, e)
	gobs, e := forming.Gobs(c.m, c.l, c.since, c.till)
	all = append(all, gobs, e)
	at, found, e := forming.Soonest(c.m, c.l, c.section, c.mode, c.tm)
	return append(all, at, found, e)
}

// answers are the results of all functions, but for Drive and for Parse, which tell where an error is.
func (c call) answers() []any {
	return slices.Concat(c.ofMotions(), c.ofMachine(), c.ofSwitches(), []any{forming.Same(c.m, press())})
}

// onlyError tells whether each result is a zero value, but for the errors, which are all e.
func onlyError(results []any, e api.Errno) bool {
	for _, x := range results {
		if got, ok := x.(api.Errno); ok && got != e || !ok && !reflect.ValueOf(x).IsZero() {
			return false
		}
	}
	return true
}
