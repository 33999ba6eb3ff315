package inspect_test

import (
	"math"
	"strings"
	"testing"

	"cullet/api"
	"cullet/inspect"
)

// manyFlaws are so many classes, the stations claiming nothing.
func manyFlaws(count int) func(*api.Checker) {
	return func(c *api.Checker) {
		c.Flaws, c.Stands = nil, nil
		for i := range count {
			c.Flaws = append(c.Flaws, flaw("f"+strings.Repeat("x", i), 1))
		}
	}
}

func manyStands(count int) func(*api.Checker) {
	return func(c *api.Checker) {
		c.Stands = nil
		for i := range count {
			c.Stands = append(c.Stands, stand("s"+strings.Repeat("x", i)))
		}
	}
}

// allClaims has a station claim so much for all of the most classes.
func allClaims(miss, of int) func(*api.Checker) {
	return func(c *api.Checker) {
		manyFlaws(api.MaxFlaws)(c)
		x := stand("eye")
		for class := range api.MaxFlaws {
			x.Claims = append(x.Claims, claim(class, miss, of))
		}
		c.Stands = []api.Stand{x}
	}
}

func TestCheckAllowed(t *testing.T) {
	for what, change := range map[string]func(*api.Checker){
		"nothing changed": func(c *api.Checker) {},
		"nothing":         func(c *api.Checker) { *c = api.Checker{Every: 1} },
		"longest time":    func(c *api.Checker) { c.Every = api.MaxClock },
		"most classes":    manyFlaws(api.MaxFlaws),
		"most stations":   manyStands(api.MaxStands),
		"most claims":     allClaims(1, 2),
		"misses nothing":  allClaims(0, 1),
		"misses all":      allClaims(api.MaxOf, api.MaxOf),
		"least and most":  func(c *api.Checker) { c.Flaws[0].Need, c.Flaws[1].Need = 0, api.MaxStands },
		"names": func(c *api.Checker) {
			c.Flaws[0].Name, c.Flaws[1].Name, c.Stands[0].Name = "a", "az-09", "z"+strings.Repeat("-9", 7)+"q"
		},
		"a name for both":   func(c *api.Checker) { c.Stands[0].Name = "crack" },
		"need without them": func(c *api.Checker) { c.Stands, c.Flaws[0].Need = nil, 3 },
	} {
		c := hall()
		change(&c)
		equal(t, what, inspect.Check(c), api.OK)
	}
}

// badNames are names that are none.
func badNames() []string {
	return []string{"", "A", "1", "-", "-a", "aB", "a_", "a/", "a:", "a{", "a`", "`", "{", "a b", "a\n", "ä", "a\x00", "abcdefghijklmnopq", strings.Repeat("a", 70000)}
}

// spoil spoils the line of inspection of a call.
func spoil(e api.Errno, change func(*api.Checker)) wrong {
	return wrong{e, func(c *call) { change(&c.c) }}
}

// wrongCheckers are the errors of Check, in their order.
func wrongCheckers() []wrong {
	var all []wrong
	add := func(e api.Errno, change func(*api.Checker)) { all = append(all, spoil(e, change)) }
	for _, n := range []int{0, -1, api.MaxClock + 1, math.MinInt, math.MaxInt} {
		add(api.ErrArg, func(c *api.Checker) { c.Every = n })
	}
	add(api.ErrLimit, func(c *api.Checker) {
		for len(c.Flaws) <= api.MaxFlaws {
			c.Flaws = append(c.Flaws, flaw(string(rune('a'+len(c.Flaws))), 1))
		}
	})
	for _, name := range badNames() {
		add(api.ErrName, func(c *api.Checker) { c.Flaws[1].Name = name })
	}
	add(api.ErrTwice, func(c *api.Checker) { c.Flaws[1].Name = c.Flaws[0].Name })
	for _, n := range []int{-1, api.MaxStands + 1, math.MinInt, math.MaxInt} {
		add(api.ErrArg, func(c *api.Checker) { c.Flaws[1].Need = n })
	}
	add(api.ErrName, func(c *api.Checker) { c.Flaws[2].Name = "Tint" })
	add(api.ErrTwice, func(c *api.Checker) { c.Flaws[2].Name = c.Flaws[0].Name })
	add(api.ErrLimit, func(c *api.Checker) { c.Stands = append(c.Stands, stand("nose")) })
	for _, name := range badNames() {
		add(api.ErrName, func(c *api.Checker) { c.Stands[1].Name = name })
	}
	add(api.ErrTwice, func(c *api.Checker) { c.Stands[1].Name = c.Stands[0].Name })
	add(api.ErrLimit, func(c *api.Checker) {
		for len(c.Stands[1].Claims) <= api.MaxFlaws {
			c.Stands[1].Claims = append(c.Stands[1].Claims, claim(0, 0, 1))
		}
	})
	for _, n := range []int{-1, 3, 8, math.MinInt, math.MaxInt} {
		add(api.ErrNone, func(c *api.Checker) { c.Stands[1].Claims[1].Class = n })
	}
	add(api.ErrTwice, func(c *api.Checker) { c.Stands[1].Claims[1].Class = c.Stands[1].Claims[0].Class })
	for _, x := range [][2]int{{0, 0}, {0, -1}, {0, api.MaxOf + 1}, {-1, 5}, {6, 5}, {math.MinInt, 5}, {math.MaxInt, 5}, {math.MaxInt, math.MaxInt}, {math.MinInt, math.MinInt}} {
		add(api.ErrArg, func(c *api.Checker) { c.Stands[1].Claims[1].Miss, c.Stands[1].Claims[1].Of = x[0], x[1] })
	}
	add(api.ErrName, func(c *api.Checker) { c.Stands[3].Name = "" })
	add(api.ErrTwice, func(c *api.Checker) { c.Stands[3].Name = c.Stands[2].Name })
	add(api.ErrNone, func(c *api.Checker) { c.Stands[3].Claims[0].Class = -1 })
	return append(all, spoil(api.ErrArg, func(c *api.Checker) { c.Stands[3].Claims[1].Of = 0 }))
}

func TestCheckErrors(t *testing.T) {
	inOrder(t, "Check", wrongCheckers(), func(c call) []any { return []any{inspect.Check(c.c)} })
	inOrder(t, "Print", wrongCheckers(), func(c call) []any {
		text, e := inspect.Print(c.c)
		return []any{text, e}
	})
}

// manyRuns are so many entries.
func manyRuns(count int) []api.Run {
	l := make([]api.Run, count)
	for i := range l {
		l[i] = bottle(i, 1, 0, false)
	}
	return l
}

func TestCheckLogAllowed(t *testing.T) {
	for what, l := range map[string][]api.Run{
		"nothing":      nil,
		"hall":         hallLog(),
		"most entries": manyRuns(api.MaxRuns),
		"least":        {bottle(0, 0, 0, false), sample(0, eyes, crack, false)},
		"most":         {bottle(api.MaxClock, api.MaxLotNo, api.MaxNumber, true), sample(api.MaxClock, tap, stone, true)},
		"at once":      {sample(5, ray, tint, true), bottle(5, 1, 1, false), sample(5, ray, tint, false)},
	} {
		equal(t, what, inspect.CheckLog(hall(), l), api.OK)
	}
}

// wrongLogs are the errors of CheckLog, in their order.
func wrongLogs() []wrong {
	all := wrongCheckers()
	add := func(e api.Errno, change func(l []api.Run)) {
		all = append(all, wrong{e, func(c *call) { change(c.l) }})
	}
	all = append(all, wrong{api.ErrLimit, func(c *call) {
		c.l = append(c.l, make([]api.Run, api.MaxRuns+1-len(c.l))...)
	}})
	// a bottle behind another entry
	for _, kind := range []api.RunKind{api.RuNone, 3, 255} {
		add(api.ErrArg, func(l []api.Run) { l[3].Kind = kind })
	}
	for _, n := range []int{-1, api.MaxClock + 1, math.MinInt, math.MaxInt} {
		add(api.ErrArg, func(l []api.Run) { l[3].Time = n })
	}
	add(api.ErrState, func(l []api.Run) { l[3].Time = l[2].Time - 1 })
	for _, n := range []int{-1, api.MaxLotNo + 1, math.MinInt, math.MaxInt} {
		add(api.ErrArg, func(l []api.Run) { l[3].Lot = n })
	}
	for _, n := range []int{-1, api.MaxNumber + 1, math.MinInt, math.MaxInt} {
		add(api.ErrArg, func(l []api.Run) { l[3].Number = n })
	}
	for _, n := range []int{-1, 1, math.MinInt, math.MaxInt} {
		add(api.ErrArg, func(l []api.Run) { l[3].Stand = n })
		add(api.ErrArg, func(l []api.Run) { l[3].Class = n })
	}
	// a challenge behind another entry
	add(api.ErrArg, func(l []api.Run) { l[6].Kind = 3 })
	add(api.ErrArg, func(l []api.Run) { l[6].Time = -1 })
	add(api.ErrState, func(l []api.Run) { l[6].Time = l[5].Time - 1 })
	for _, n := range []int{-1, 4, math.MinInt, math.MaxInt} {
		add(api.ErrNone, func(l []api.Run) { l[6].Stand = n })
	}
	for _, n := range []int{-1, 3, math.MinInt, math.MaxInt} {
		add(api.ErrNone, func(l []api.Run) { l[6].Class = n })
	}
	add(api.ErrScope, func(l []api.Run) { l[6].Class = tint })
	add(api.ErrScope, func(l []api.Run) { l[6].Stand = touch })
	for _, n := range []int{-1, 1, math.MinInt, math.MaxInt} {
		add(api.ErrArg, func(l []api.Run) { l[6].Lot = n })
		add(api.ErrArg, func(l []api.Run) { l[6].Number = n })
	}
	add(api.ErrScope, func(l []api.Run) { l[7].Class = crack })
	add(api.ErrArg, func(l []api.Run) { l[8].Kind = api.RuNone })
	return all
}

func TestCheckLogErrors(t *testing.T) {
	inOrder(t, "CheckLog", wrongLogs(), func(c call) []any { return []any{inspect.CheckLog(c.c, c.l)} })
	inOrder(t, "Write", wrongLogs(), func(c call) []any {
		text, e := inspect.Write(c.c, c.l)
		return []any{text, e}
	})
	inOrder(t, "Blocked", wrongLogs(), func(c call) []any {
		all, e := inspect.Blocked(c.c, c.l)
		return []any{all, e}
	})
	inOrder(t, "Lots", wrongLogs(), call.lots)
}

// TestCheckLogFirst: the first entry may have any time, and no entry an earlier one than that just before it.
func TestCheckLogFirst(t *testing.T) {
	l := []api.Run{bottle(50, 1, 0, false), bottle(50, 1, 0, false), bottle(49, 1, 0, false)}
	equal(t, "first", inspect.CheckLog(hall(), l[2:]), api.OK)
	equal(t, "alike", inspect.CheckLog(hall(), l[:2]), api.OK)
	equal(t, "falls", inspect.CheckLog(hall(), l), api.ErrState)
	// what is wrong with an entry's kind comes ahead of its time, and that ahead of what it says
	l[2].Kind = api.RuNone
	equal(t, "kind", inspect.CheckLog(hall(), l), api.ErrArg)
	l[2] = sample(49, -1, 0, false)
	equal(t, "time", inspect.CheckLog(hall(), l), api.ErrState)
}
