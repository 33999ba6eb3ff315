package forming_test

import (
	"math"
	"math/rand"
	"slices"
	"strings"
	"testing"

	"cullet/api"
	"cullet/forming"
)

// wild numbers and names: those that lie about limits, and such as nobody would write.
var wildNumbers = []int{0, 1, -1, 2, 3, 5, 16, 25, 50, 80, 99, 100, 101, 128, 180, 3600, 3601, 1000000, 1000001, -1000000, 1000000000, 1000000001, -1000000000, math.MaxInt, math.MinInt, math.MaxInt - 1, 1 << 31, -(1 << 31), 1 << 62}

var wildNames = []string{"", "a", "b", "arm", "run", "c9", "-", "A", "a b", "\n", "\x00", "\xff\xfe", "a\xc3", strings.Repeat("a", 16), strings.Repeat("a", 17)}

func wildNumber(r *rand.Rand) int      { return wildNumbers[r.Intn(len(wildNumbers))] }
func wildName(r *rand.Rand) string     { return wildNames[r.Intn(len(wildNames))] }
func wildSpan(r *rand.Rand) api.Span   { return span(wildNumber(r), wildNumber(r)) }
func wildRatio(r *rand.Rand) api.Ratio { return ratio(wildNumber(r), wildNumber(r)) }
func wildKnot(r *rand.Rand) api.Knot   { return api.Knot{At: wildNumber(r), Place: wildNumber(r)} }

func wildStretch(r *rand.Rand) api.Stretch {
	return api.Stretch{From: wildRatio(r), To: wildRatio(r)}
}

func wildSwitch(r *rand.Rand) api.Switch {
	return api.Switch{Section: r.Intn(4) - 1, Time: wildNumber(r), Mode: r.Intn(5) - 1}
}

func wildMech(r *rand.Rand) api.Mech {
	return api.Mech{Name: wildName(r), Home: wildNumber(r), Slack: wildNumber(r), Most: wildNumber(r)}
}

func wildMotion(r *rand.Rand) []api.Knot { return wildList(r, wildKnot) }

func wildMode(r *rand.Rand) api.Mode {
	return api.Mode{Name: wildName(r), Motions: wildList(r, wildMotion), Gob: wildNumber(r), Reject: wildNumber(r)}
}

func wildGuard(r *rand.Rand) api.Guard {
	return guard(api.GuardKind(r.Intn(256)), wildNumber(r), wildSpan(r), wildNumber(r), wildSpan(r))
}

func wildList[T any](r *rand.Rand, of func(*rand.Rand) T) []T {
	var all []T
	for range []int{0, 1, 1, 2, 2, 3, 9, 17, 33, 129}[r.Intn(10)] {
		all = append(all, of(r))
	}
	return all
}

// wildText is a text with a line that is another one, or with a few bytes that are.
func wildText(r *rand.Rand, text string) string {
	lines := strings.Split(text, "\n")
	switch i := r.Intn(len(lines)); r.Intn(4) {
	case 0:
		lines[i] = lines[r.Intn(len(lines))]
	case 1:
		lines = slices.Delete(lines, i, i+1)
	case 2:
		lines[i] = wildName(r) + " " + lines[i]
	default:
		b := []byte(text)
		b[r.Intn(len(b))] = byte(r.Intn(256))
		return string(b[:r.Intn(len(b)+1)])
	}
	return strings.Join(lines, "\n")
}

// wild spoils one thing or more of good arguments.
func wild(r *rand.Rand) call {
	c := good()
	changes := []func(){
		func() { c.m.Cycle = wildNumber(r) },
		func() { c.m.Offsets = wildList(r, wildNumber) },
		func() { c.m.Offsets[r.Intn(2)] = wildNumber(r) },
		func() { c.m.Spread = wildNumber(r) },
		func() { c.m.Mechs = wildList(r, wildMech) },
		func() { c.m.Mechs[r.Intn(2)] = wildMech(r) },
		func() { c.m.Mechs[r.Intn(2)].Slack = r.Intn(26) },
		func() { c.m.Mechs[r.Intn(2)].Home = wildNumber(r) },
		func() { c.m.Modes = wildList(r, wildMode) },
		func() { c.m.Modes[r.Intn(3)] = wildMode(r) },
		func() { c.m.Modes[r.Intn(3)].Motions = wildList(r, wildMotion) },
		func() { c.m.Modes[r.Intn(3)].Motions[r.Intn(2)] = wildMotion(r) },
		func() { c.m.Modes[0].Motions[r.Intn(2)][r.Intn(4)] = wildKnot(r) },
		func() { c.m.Modes[r.Intn(3)].Gob = wildNumber(r) },
		func() { c.m.Modes[r.Intn(3)].Reject = wildNumber(r) },
		func() { c.m.Guards = wildList(r, wildGuard) },
		func() { c.m.Guards[r.Intn(2)] = wildGuard(r) },
		func() { c.m.Guards[r.Intn(2)].PA = span(r.Intn(101), r.Intn(101)) },
		func() { c.m.Guards[r.Intn(2)].B = wildNumber(r) },
		func() { c.l = wildList(r, wildSwitch) },
		func() { c.l[r.Intn(2)] = wildSwitch(r) },
		func() { c.l = append(c.l, wildSwitch(r)) },
		func() { c.cycle = wildNumber(r) },
		func() { c.home = wildNumber(r) },
		func() { c.motion = wildMotion(r) },
		func() { c.motion[r.Intn(4)] = wildKnot(r) },
		func() { c.at = wildRatio(r) },
		func() { c.s = wildSpan(r) },
		func() { c.a = wildList(r, wildStretch) },
		func() { c.b = wildList(r, wildStretch) },
		func() { c.b[0] = wildStretch(r) },
		func() { c.shift = wildNumber(r) },
		func() { c.from, c.to = wildNumber(r), wildNumber(r) },
		func() { c.tick = wildNumber(r) },
		func() { c.section = wildNumber(r) },
		func() { c.mech = wildNumber(r) },
		func() { c.mode = wildNumber(r) },
		func() { c.tm = wildNumber(r) },
		func() { c.since, c.till = wildNumber(r), wildNumber(r) },
		func() { c.text = wildText(r, c.text) },
	}
	for _, i := range r.Perm(len(changes))[:1+r.Intn(2)] {
		func() {
			defer func() { recover() }() // a change may come behind one that left nothing to change
			changes[i]()
		}()
	}
	return c
}

func cloned(c call) call {
	c.l, c.motion, c.a, c.b = slices.Clone(c.l), slices.Clone(c.motion), slices.Clone(c.a), slices.Clone(c.b)
	c.m.Offsets, c.m.Mechs, c.m.Guards = slices.Clone(c.m.Offsets), slices.Clone(c.m.Mechs), slices.Clone(c.m.Guards)
	c.m.Modes = slices.Clone(c.m.Modes)
	for i := range c.m.Modes {
		c.m.Modes[i].Motions = slices.Clone(c.m.Modes[i].Motions)
		for j := range c.m.Modes[i].Motions {
			c.m.Modes[i].Motions[j] = slices.Clone(c.m.Modes[i].Motions[j])
		}
	}
	return c
}

// TestAnything: whatever the arguments are, all functions return, do not change them, and return the same again (P0.1, R4, R10).
func TestAnything(t *testing.T) {
	r := rand.New(rand.NewSource(61))
	for range 3000 {
		c := wild(r)
		before := cloned(c)
		at, e := forming.Drive(c.m, c.l)
		one := append(c.answers(), at, e)
		equal(t, "arguments behind", c, before)
		at, e = forming.Drive(c.m, c.l)
		equal(t, "answers", append(c.answers(), at, e), one)
		forming.Same(c.m, wild(r).m)
	}
	for _, x := range good().answers() {
		if e, ok := x.(api.Errno); ok {
			equal(t, "error of what is good", e, api.OK)
		}
	}
}

// TestZeroWithError: with an error every other result is its zero value, but for the number of Drive and the line of Parse (R2).
func TestZeroWithError(t *testing.T) {
	r := rand.New(rand.NewSource(62))
	for range 3000 {
		c := wild(r)
		m, _, e := forming.Parse(c.text)
		if e != api.OK && !onlyError([]any{m, e}, e) {
			t.Fatal(m, e)
		}
		c.text = good().text
		var results []any
		for _, x := range c.answers() {
			results = append(results, x)
			if e, ok := x.(api.Errno); ok {
				if e != api.OK && !onlyError(results, e) {
					t.Fatal(results)
				}
				results = nil
			}
		}
	}
}

// TestNilAndEmpty: a nil list and an empty one are the same (R3).
func TestNilAndEmpty(t *testing.T) {
	none, empty := good(), good()
	none.m = api.Machine{Cycle: 5}
	empty.m = api.Machine{Cycle: 5, Offsets: []int{}, Mechs: []api.Mech{}, Modes: []api.Mode{}, Guards: []api.Guard{}}
	none.motion, none.a, none.b, none.l = nil, nil, nil, nil
	empty.motion, empty.a, empty.b, empty.l = []api.Knot{}, ticks(), ticks(), []api.Switch{}
	equal(t, "all", empty.answers(), none.answers())
	empty = good()
	empty.m.Modes[1].Motions = [][]api.Knot{{}, {}}
	equal(t, "motions", empty.answers(), good().answers())
	none, empty = good(), good()
	none.l, empty.l = nil, []api.Switch{}
	equal(t, "log", empty.answers(), none.answers())
	none.m.Mechs, empty.m.Mechs = nil, []api.Mech{}
	none.m.Guards, empty.m.Guards = nil, []api.Guard{}
	for i := range none.m.Modes {
		none.m.Modes[i].Motions, empty.m.Modes[i].Motions = nil, [][]api.Knot{}
	}
	equal(t, "no mechanisms", forming.Check(none.m), api.OK)
	equal(t, "no mechanisms", empty.answers(), none.answers())
}

// TestNewMemory: a result shares no memory with an argument, nor with another result (R4).
func TestNewMemory(t *testing.T) {
	c := good()
	c.m.Guards[0].PA.Low = 0
	before := cloned(c)
	for range 2 {
		broken, _ := forming.Broken(c.m)
		same(t, "Broken", broken, before.m.Guards[:1])
		for i := range broken[:cap(broken)] {
			broken[:cap(broken)][i] = api.Guard{}
		}
		stretches, _ := forming.Stretches(c.cycle, c.home, c.motion, c.s)
		same(t, "Stretches", stretches, ticks(10, 70))
		stretches[0] = api.Stretch{}
		found, _ := forming.Ticks(press(), 0, 1)
		same(t, "Ticks", found, []int{0, 80})
		found[0] = 9
		equal(t, "arguments", c, before)
		m, _, _ := forming.Parse(c.text)
		equal(t, "Parse", forming.Same(m, press()), true)
		for i := range m.Modes {
			for j, motion := range m.Modes[i].Motions {
				clear(motion[:cap(motion)])
				m.Modes[i].Motions[j] = press().Modes[i].Motions[j]
				equal(t, "Parse, other motions", forming.Same(m, press()), true)
			}
			motions := m.Modes[i].Motions
			clear(motions[:cap(motions)])
			m.Modes[i].Motions = press().Modes[i].Motions
			equal(t, "Parse, other modes", forming.Same(m, press()), true)
		}
	}
}
