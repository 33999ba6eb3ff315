package moulds_test

import (
	"math"
	"math/rand"
	"reflect"
	"slices"
	"strings"
	"testing"

	"cullet/api"
	"cullet/moulds"
)

// wild numbers: those that lie about limits, and such as nobody would write.
var wildNumbers = []int{0, 1, -1, 2, 4, 5, 11, 15, 16, 20, 60, 63, 64, 100, 300, 999, 1000, 10000, 10001, 100000, 100001, 1000001, 999999999, 1000000000, 1000000001, -1000000000, math.MaxInt, math.MinInt, math.MaxInt - 1, 1 << 31, -(1 << 31), 1 << 62}

func wildNumber(r *rand.Rand) int { return wildNumbers[r.Intn(len(wildNumbers))] }

// near is a number that mostly may be.
func near(r *rand.Rand, most int) int {
	if r.Intn(8) == 0 {
		return wildNumber(r)
	}
	return r.Intn(most + 1)
}

func wildMould(r *rand.Rand) api.Mould { return api.Mould{Number: near(r, 999), Life: near(r, 9)} }

func wildMount(r *rand.Rand) api.Mount {
	from := near(r, 500)
	return mount(near(r, 3), near(r, 1), near(r, 1), from, from+near(r, 100))
}

func wildSwitch(r *rand.Rand) api.Switch {
	return api.Switch{Section: near(r, 1), Time: near(r, 900), Mode: near(r, 3)}
}

func wildMode(r *rand.Rand) api.Mode {
	return api.Mode{Name: []string{"run", "a", "", "A"}[r.Intn(4)], Motions: make([][]api.Knot, r.Intn(3)), Gob: near(r, 99), Reject: near(r, 9)}
}

func wildSight(r *rand.Rand) api.Sight {
	return api.Sight{Time: near(r, 800), Number: near(r, 2) * near(r, 14)}
}

func wildList[T any](r *rand.Rand, of func(*rand.Rand) T) []T {
	var all []T
	for range []int{0, 1, 1, 2, 2, 3, 24, 25, 64, 65, 129}[r.Intn(11)] {
		all = append(all, of(r))
	}
	return all
}

// wildText is a text with a line that is another one, or with a few bytes that are.
func wildText(r *rand.Rand, text string) string {
	lines := strings.Split(text, "\n")
	switch i := r.Intn(len(lines)); r.Intn(4) {
	case 0:
		lines[i] = lines[r.Intn(len(lines))]
	case 1:
		lines = slices.Delete(lines, i, i+1)
	case 2:
		lines[i] = []string{"", " ", "shop", "mould\x00", "\xff", "mount 1 -1 10000000000"}[r.Intn(6)] + lines[i]
	default:
		b := []byte(text)
		b[r.Intn(len(b))] = byte(r.Intn(256))
		return string(b[:r.Intn(len(b)+1)])
	}
	return strings.Join(lines, "\n")
}

// wild spoils one thing or more of good arguments.
func wild(r *rand.Rand) call {
	c := good()
	changes := []func(){
		func() { c.s.Cavities = wildNumber(r) },
		func() { c.s.Low = wildNumber(r) },
		func() { c.s.High = wildNumber(r) },
		func() { c.s.Low, c.s.High = 0, wildNumber(r) },
		func() { c.s.Swap = wildNumber(r) },
		func() { c.s.Moulds = wildList(r, wildMould) },
		func() { c.s.Moulds[r.Intn(4)] = wildMould(r) },
		func() { c.s.Mounts = wildList(r, wildMount) },
		func() { c.s.Mounts[r.Intn(5)] = wildMount(r) },
		func() { c.s.Mounts[4].From = wildNumber(r) },
		func() { c.s.Mounts[4].To = wildNumber(r) },
		func() { c.m.Cycle = wildNumber(r) },
		func() { c.m.Offsets = wildList(r, wildNumber) },
		func() { c.m.Offsets[r.Intn(2)] = near(r, 99) },
		func() { c.m.Spread = wildNumber(r) },
		func() { c.m.Modes = wildList(r, wildMode) },
		func() { c.m.Modes[r.Intn(4)].Gob = near(r, 99) },
		func() { c.m.Modes[r.Intn(4)].Reject = near(r, 9) },
		func() { c.m.Mechs = nil },
		func() { c.m.Guards = make([]api.Guard, 1+r.Intn(40)) },
		func() { c.l = wildList(r, wildSwitch) },
		func() { c.l[r.Intn(3)] = wildSwitch(r) },
		func() { c.l = append(c.l, wildSwitch(r)) },
		func() { c.section, c.cavity = wildNumber(r), near(r, 1) },
		func() { c.cavity, c.t = wildNumber(r), near(r, 900) },
		func() { c.t = wildNumber(r) },
		func() { c.mould = wildNumber(r) },
		func() { c.from = wildNumber(r) },
		func() { c.to = wildNumber(r) },
		func() { c.from, c.to = wildNumber(r), wildNumber(r) },
		func() { c.till = wildNumber(r) },
		func() { c.sights = wildList(r, wildSight) },
		func() { c.sights[r.Intn(3)] = wildSight(r) },
		func() { c.sights[r.Intn(3)] = api.Sight{Time: wildNumber(r), Number: wildNumber(r)} },
		func() { c.text = wildText(r, c.text) },
	}
	for _, i := range r.Perm(len(changes))[:1+r.Intn(2)] {
		func() {
			defer func() { recover() }() // a change may come behind one that left nothing to change
			changes[i]()
		}()
	}
	c.look = r.Intn(max(1, len(c.sights)))
	return c
}

func cloned(c call) call {
	c.s.Moulds, c.s.Mounts, c.sights = slices.Clone(c.s.Moulds), slices.Clone(c.s.Mounts), slices.Clone(c.sights)
	c.l, c.m.Offsets, c.m.Mechs, c.m.Guards = slices.Clone(c.l), slices.Clone(c.m.Offsets), slices.Clone(c.m.Mechs), slices.Clone(c.m.Guards)
	c.m.Modes = slices.Clone(c.m.Modes)
	for i := range c.m.Modes {
		c.m.Modes[i].Motions = slices.Clone(c.m.Modes[i].Motions)
		for j := range c.m.Modes[i].Motions {
			c.m.Modes[i].Motions[j] = slices.Clone(c.m.Modes[i].Motions[j])
		}
	}
	return c
}

// TestAnything: whatever the arguments are, all functions return, do not change them, and return the same again (P0.1, R4, R10).
func TestAnything(t *testing.T) {
	r := newRand(69)
	for range 3000 {
		c := wild(r)
		before := cloned(c)
		first := c.answers()
		equal(t, "arguments behind", c, before)
		equal(t, "answers", c.answers(), first)
		moulds.Same(c.s, wild(r).s)
	}
	for _, x := range good().answers() {
		if e, ok := x.(api.Errno); ok {
			equal(t, "error of what is good", e, api.OK)
		}
	}
	for _, x := range (call{}).answers() {
		if e, ok := x.(api.Errno); ok && e != api.ErrArg && e != api.ErrForm {
			t.Error("error of what is nothing", e)
		}
	}
}

// TestZeroWithError: with an error every other result is its zero value, but for the line of Parse (R2).
func TestZeroWithError(t *testing.T) {
	r := newRand(70)
	kinds := map[api.Errno]int{}
	for range 3000 {
		var results []any
		for _, x := range wild(r).answers() {
			results = append(results, x)
			if e, ok := x.(api.Errno); ok {
				kinds[e]++
				if e != api.OK && !onlyError(results, e) {
					t.Fatal(results)
				}
				results = nil
			}
		}
	}
	for _, e := range []api.Errno{api.OK, api.ErrArg, api.ErrLimit, api.ErrForm, api.ErrTwice, api.ErrNone, api.ErrState, api.ErrScope, api.ErrClash} {
		if kinds[e] == 0 {
			t.Error("no error", e)
		}
	}
}

func none[T any](empty bool) []T {
	if empty {
		return []T{}
	}
	return nil
}

// TestNilAndEmpty: a nil list and an empty one are the same (R3).
func TestNilAndEmpty(t *testing.T) {
	for what, change := range map[string]func(c *call, empty bool){
		"moulds": func(c *call, empty bool) { c.s.Moulds, c.s.Mounts = none[api.Mould](empty), nil },
		"mounts": func(c *call, empty bool) { c.s.Mounts = none[api.Mount](empty) },
		"log":    func(c *call, empty bool) { c.l = none[api.Switch](empty) },
		"sights": func(c *call, empty bool) { c.sights = none[api.Sight](empty) },
		"offsets": func(c *call, empty bool) {
			c.m.Offsets, c.l, c.s.Mounts = none[int](empty), nil, nil
		},
		"modes": func(c *call, empty bool) { c.m.Modes, c.l = none[api.Mode](empty), nil },
	} {
		a, b := good(), good()
		change(&a, false)
		change(&b, true)
		equal(t, what, b.answers(), a.answers())
		equal(t, what+", the same", moulds.Same(a.s, b.s), true)
	}
}

// TestNewMemory: a result shares no memory with an argument, nor with another result (R4).
func TestNewMemory(t *testing.T) {
	c := good()
	before := cloned(c)
	results := func() []any {
		made, _ := moulds.Made(c.s, c.m, c.l, c.from, c.to)
		worn, _ := moulds.Worn(c.s, c.m, c.l, c.till)
		windows, _ := moulds.Windows(c.s, c.m, c.l, c.mould, c.from, c.to)
		sources, _ := c.sources()
		_, first, sure, _ := moulds.Culprits(c.s, c.m, c.l, c.sights[:1])
		s, _, _ := moulds.Parse(c.text)
		return []any{made, worn, windows, sources, first, sure, s.Moulds, s.Mounts}
	}
	want := results()
	got := results()
	for i, x := range got {
		v := reflect.ValueOf(x)
		if v.Len() == 0 {
			t.Fatal("an empty list", i)
		}
		v = v.Slice(0, v.Cap())
		for j := range v.Len() {
			v.Index(j).SetZero()
		}
		equal(t, "other results", got[i+1:], want[i+1:])
	}
	equal(t, "arguments", c, before)
	equal(t, "results", results(), want)
}
