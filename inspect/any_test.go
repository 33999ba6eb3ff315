package inspect_test

import (
	"math"
	"math/rand"
	"reflect"
	"slices"
	"strings"
	"testing"

	"cullet/api"
	"cullet/inspect"
)

// wild numbers: those that lie about limits, and such as nobody would write.
var wildNumbers = []int{0, 1, -1, 2, 3, 4, 5, 8, 9, 16, 17, 100, 512, 513, 999, 1000, 1001, 10000, 10001, 1000000, 1000001, 1000000000, 1000000001, -1000000000, math.MaxInt, math.MinInt, math.MaxInt - 1, 1 << 31, -(1 << 31), 1 << 62}

func wildNumber(r *rand.Rand) int { return wildNumbers[r.Intn(len(wildNumbers))] }

// near is a number that mostly may be.
func near(r *rand.Rand, most int) int {
	if r.Intn(8) == 0 {
		return wildNumber(r)
	}
	return r.Intn(most + 1)
}

func wildName(r *rand.Rand) string {
	return []string{"crack", "eye", "a", "b", "", "A", "\xff", "abcdefghijklmnopq"}[r.Intn(8)]
}

func wildFlaw(r *rand.Rand) api.Flaw { return flaw(wildName(r), near(r, 4)) }

func wildClaim(r *rand.Rand) api.Claim { return claim(near(r, 2), near(r, 3), near(r, 9)) }

func wildStand(r *rand.Rand) api.Stand { return stand(wildName(r), wildList(r, wildClaim)...) }

func wildRun(r *rand.Rand) api.Run {
	return api.Run{Time: near(r, 150), Kind: api.RunKind(near(r, 3)), Lot: near(r, 1) * near(r, 9), Number: near(r, 1) * near(r, 12), Stand: near(r, 3), Class: near(r, 2), Out: r.Intn(2) > 0}
}

func wildHold(r *rand.Rand) api.Hold { return hold(near(r, 3), near(r, 200), near(r, 400)) }

func wildSwitch(r *rand.Rand) api.Switch {
	return api.Switch{Section: near(r, 1), Time: near(r, 900), Mode: near(r, 1)}
}

func wildMould(r *rand.Rand) api.Mould { return api.Mould{Number: near(r, 20), Life: near(r, 9)} }

func wildMount(r *rand.Rand) api.Mount {
	return api.Mount{Mould: near(r, 2), Section: near(r, 1), From: near(r, 50), To: near(r, 1000)}
}

func wildList[T any](r *rand.Rand, of func(*rand.Rand) T) []T {
	var all []T
	for range []int{0, 1, 1, 2, 2, 3, 4, 5, 9, 17, 129, 513}[r.Intn(12)] {
		all = append(all, of(r))
	}
	return all
}

// wildText is a text with a line that is another one, or with a few bytes that are.
func wildText(r *rand.Rand, text string) string {
	lines := strings.Split(text, "\n")
	switch i := r.Intn(len(lines)); r.Intn(4) {
	case 0:
		lines[i] = lines[r.Intn(len(lines))]
	case 1:
		lines = slices.Delete(lines, i, i+1)
	case 2:
		lines[i] = []string{"", " ", "every", "claim\x00", "\xff", "5 sample eye none found"}[r.Intn(6)] + lines[i]
	default:
		b := []byte(text)
		b[r.Intn(len(b))] = byte(r.Intn(256))
		return string(b[:r.Intn(len(b)+1)])
	}
	return strings.Join(lines, "\n")
}

// changes are what spoils a call.
func changes(r *rand.Rand, c *call) []func() {
	return []func(){
		func() { c.c.Every = wildNumber(r) },
		func() { c.c.Flaws = wildList(r, wildFlaw) },
		func() { c.c.Flaws[r.Intn(3)] = wildFlaw(r) },
		func() { c.c.Stands = wildList(r, wildStand) },
		func() { c.c.Stands[r.Intn(4)] = wildStand(r) },
		func() { c.c.Stands[3].Claims[r.Intn(2)] = wildClaim(r) },
		func() { c.l = wildList(r, wildRun) },
		func() { c.l[r.Intn(17)] = wildRun(r) },
		func() { c.l[r.Intn(17)].Time = near(r, 150) },
		func() { c.l = append(c.l, wildRun(r)) },
		func() { c.l = slices.Delete(c.l, 0, r.Intn(17)) },
		func() { c.stand = wildNumber(r) },
		func() { c.class = wildNumber(r) },
		func() { c.entry = near(r, 16) },
		func() { c.entry = wildNumber(r) },
		func() { c.s.Low, c.s.High = 0, wildNumber(r) },
		func() { c.s.Moulds = wildList(r, wildMould) },
		func() { c.s.Moulds[r.Intn(3)] = wildMould(r) },
		func() { c.s.Mounts = wildList(r, wildMount) },
		func() { c.s.Mounts[r.Intn(2)] = wildMount(r) },
		func() { c.m.Cycle = wildNumber(r) },
		func() { c.m.Offsets = wildList(r, wildNumber) },
		func() { c.m.Spread = wildNumber(r) },
		func() { c.m.Modes[r.Intn(2)].Gob = near(r, 99) },
		func() { c.m.Guards = make([]api.Guard, 1+r.Intn(40)) },
		func() { c.w = wildList(r, wildSwitch) },
		func() { c.w[r.Intn(2)] = wildSwitch(r) },
		func() { c.holds = wildList(r, wildHold) },
		func() { c.holds[r.Intn(2)] = wildHold(r) },
		func() { c.text = wildText(r, c.text) },
		func() { c.log = wildText(r, c.log) },
	}
}

// wild spoils one thing or more of good arguments.
func wild(r *rand.Rand) call {
	c := good()
	all := changes(r, &c)
	for _, i := range r.Perm(len(all))[:1+r.Intn(3)] {
		func() {
			defer func() { recover() }() // a change may come behind one that left nothing to change
			all[i]()
		}()
	}
	return c
}

func cloned(c call) call {
	c.c.Flaws, c.c.Stands = slices.Clone(c.c.Flaws), slices.Clone(c.c.Stands)
	for i := range c.c.Stands {
		c.c.Stands[i].Claims = slices.Clone(c.c.Stands[i].Claims)
	}
	c.l, c.w, c.holds = slices.Clone(c.l), slices.Clone(c.w), slices.Clone(c.holds)
	c.s.Moulds, c.s.Mounts = slices.Clone(c.s.Moulds), slices.Clone(c.s.Mounts)
	c.m.Offsets, c.m.Modes, c.m.Guards = slices.Clone(c.m.Offsets), slices.Clone(c.m.Modes), slices.Clone(c.m.Guards)
	return c
}

// TestAnything: whatever the arguments are, all functions return, do not change them, and return the same again (P0.1, R4, R10).
func TestAnything(t *testing.T) {
	r := newRand(79)
	for range 3000 {
		c := wild(r)
		before := cloned(c)
		first := c.answers()
		equal(t, "arguments behind", c, before)
		equal(t, "answers", c.answers(), first)
		inspect.Same(c.c, wild(r).c)
	}
	for _, x := range good().answers() {
		if e, ok := x.(api.Errno); ok {
			equal(t, "error of what is good", e, api.OK)
		}
	}
	for _, x := range (call{}).answers() {
		if e, ok := x.(api.Errno); ok && e != api.ErrArg && e != api.ErrForm {
			t.Error("error of what is nothing", e)
		}
	}
}

// TestZeroWithError: with an error every other result is its zero value, but for the lines of Parse and Read (R2).
func TestZeroWithError(t *testing.T) {
	r := newRand(80)
	kinds := map[api.Errno]int{}
	for range 3000 {
		var results []any
		for _, x := range wild(r).answers() {
			results = append(results, x)
			if e, ok := x.(api.Errno); ok {
				kinds[e]++
				if e != api.OK && !onlyError(results, e) {
					t.Fatal(results)
				}
				results = nil
			}
		}
	}
	for _, e := range []api.Errno{api.OK, api.ErrArg, api.ErrLimit, api.ErrForm, api.ErrName, api.ErrTwice, api.ErrNone, api.ErrState, api.ErrScope, api.ErrClash} {
		if kinds[e] == 0 {
			t.Error("no error", e)
		}
	}
}

func none[T any](empty bool) []T {
	if empty {
		return []T{}
	}
	return nil
}

// TestNilAndEmpty: a nil list and an empty one are the same (R3).
func TestNilAndEmpty(t *testing.T) {
	for what, change := range map[string]func(c *call, empty bool){
		"classes":  func(c *call, empty bool) { c.c.Flaws, c.c.Stands, c.l = none[api.Flaw](empty), nil, nil },
		"stations": func(c *call, empty bool) { c.c.Stands, c.l = none[api.Stand](empty), nil },
		"claims":   func(c *call, empty bool) { c.c.Stands[touch].Claims = none[api.Claim](empty) },
		"log":      func(c *call, empty bool) { c.l = none[api.Run](empty) },
		"moulds":   func(c *call, empty bool) { c.s.Moulds, c.s.Mounts = none[api.Mould](empty), nil },
		"mounts":   func(c *call, empty bool) { c.s.Mounts = none[api.Mount](empty) },
		"switches": func(c *call, empty bool) { c.w = none[api.Switch](empty) },
		"holds":    func(c *call, empty bool) { c.holds = none[api.Hold](empty) },
	} {
		a, b := good(), good()
		change(&a, false)
		change(&b, true)
		equal(t, what, b.answers(), a.answers())
		equal(t, what+", the same", inspect.Same(a.c, b.c), true)
	}
}

// TestNewMemory: a result shares no memory with an argument, nor with another result (R4).
func TestNewMemory(t *testing.T) {
	c := good()
	before := cloned(c)
	results := func() []any {
		checker, _, _ := inspect.Parse(c.text)
		other, _, _ := inspect.Parse(c.text)
		log, _, _ := inspect.Read(c.c, c.log)
		all := []any{log, checker.Flaws, checker.Stands[0].Claims, checker.Stands[1].Claims, checker.Stands[3].Claims, other.Stands}
		blocked, _ := inspect.Blocked(c.c, c.l)
		clear, stopped, open, _ := inspect.Lots(c.c, c.l)
		held, _ := inspect.Held(c.c, c.l, c.s, c.m, c.w, c.holds)
		free, _ := inspect.Release(c.c, c.l, c.s, c.m, c.w, c.holds)
		return append(all, blocked, clear, stopped, open, held, free)
	}
	want := results()
	got := results()
	for i, x := range got {
		v := reflect.ValueOf(x)
		if v.Len() == 0 {
			t.Fatal("an empty list", i)
		}
		v = v.Slice(0, v.Cap())
		for j := range v.Len() {
			v.Index(j).SetZero()
		}
		equal(t, "other results", got[i+1:], want[i+1:])
	}
	equal(t, "arguments", c, before)
	equal(t, "results", results(), want)
}
