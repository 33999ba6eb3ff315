package strength_test

import (
	"math"
	"testing"

	"cullet/api"
	"cullet/gobs"
	"cullet/strength"
)

// checkNeeded compares how thick the rings of a bottle must be.
func checkNeeded(t *testing.T, what string, b api.Bottle, l api.Load, want ...int) {
	t.Helper()
	got, e := strength.Needed(b, l)
	fine(t, what, got, e, want)
}

// checkLightest compares how heavy the gob of a bottle must be.
func checkLightest(t *testing.T, what string, b api.Bottle, l api.Load, want int) {
	t.Helper()
	got, e := strength.Lightest(b, l)
	fine(t, what, got, e, want)
}

// checkPasses compares whether a measured bottle passes.
func checkPasses(t *testing.T, what string, b api.Bottle, l api.Load, measured []int, acc int, want bool) {
	t.Helper()
	got, e := strength.Passes(b, l, measured, acc)
	fine(t, what, got, e, want)
}

// TestNeeded: the least thickness with which each ring surely holds (P5.4).
func TestNeeded(t *testing.T) {
	b := example()
	checkNeeded(t, "example", b, api.Load{Press: 1000}, 48)
	checkNeeded(t, "nothing", b, api.Load{}, 1)
	checkNeeded(t, "just borne", b, api.Load{Other: 63245}, 1)
	checkNeeded(t, "not borne, however thick", b, api.Load{Other: 63246}, 0)
	checkNeeded(t, "as thick as can be", b, api.Load{Press: 10000, Other: 63245 - 15000}, 2000)
	checkNeeded(t, "thicker than can be", b, api.Load{Press: 10000, Other: 63245 - 14999}, 0)
	checkNeeded(t, "all Highs", three(), api.Load{Press: 1000}, 62, 49, 27)
	b = three()
	b.Rings[1].Factor.High = api.MaxFactor
	checkNeeded(t, "one ring cannot", b, api.Load{Press: 10000, Other: 30000}, 1174, 0, 497)
	b.Tough = 0
	checkNeeded(t, "nothing is borne", b, api.Load{Other: 1}, 0, 0, 0)
}

// neededOf is Needed as the chapter says it.
func neededOf(b api.Bottle, l api.Load) []int {
	all := make([]int, len(b.Rings))
	for i := range b.Rings {
		for n := 1; n <= api.MaxThick && all[i] == 0; n++ {
			if ringHolds(b, i, just(n), l) {
				all[i] = n
			}
		}
	}
	return all
}

// TestNeededModel: of all bottles, Needed, Lightest and Passes tell what the chapter says (P5.4).
func TestNeededModel(t *testing.T) {
	r := newRand(41)
	weights, passed := map[bool]int{}, map[bool]int{}
	for range 300 {
		b, l := someBottle(r), someLoad(r)
		least := neededOf(b, l)
		checkNeeded(t, "bottle", b, l, least...)
		weight, e := strength.Lightest(b, l)
		equal(t, "error", e, api.OK)
		weights[weight > 0]++
		if weight == 0 {
			equal(t, "the heaviest gob", thickEnough(b, least, api.MaxGob), false)
		} else {
			equal(t, "the lightest gob", thickEnough(b, least, weight), true)
			equal(t, "a lighter gob", weight > 1 && thickEnough(b, least, weight-1), false)
		}
		acc, want := r.Intn(4), true
		var measured []int
		for _, n := range least {
			m := max(0, n+acc-1+r.Intn(8))
			measured = append(measured, m)
			want = want && n > 0 && m-acc >= n && m <= api.MaxThick
		}
		checkPasses(t, "bottle", b, l, measured, acc, want)
		passed[want]++
	}
	equal(t, "weights", weights[true] > 10 && weights[false] > 10, true)
	equal(t, "passed", passed[true] > 20 && passed[false] > 20, true)
}

// thickEnough tells whether a gob is heavy enough for all rings, as the chapter says it.
func thickEnough(b api.Bottle, least []int, weight int) bool {
	for i, r := range b.Rings {
		low := thicknessOf(r, just(weight)).Low
		if low < 1 || low < least[i] || least[i] == 0 {
			return false
		}
	}
	return true
}

// TestPasses: what was measured, less what it may be wrong, is as thick as is needed (P5.4).
func TestPasses(t *testing.T) {
	b, l := example(), api.Load{Press: 1000}
	checkPasses(t, "just so", b, l, []int{48}, 0, true)
	checkPasses(t, "too thin", b, l, []int{47}, 0, false)
	checkPasses(t, "just so, less acc", b, l, []int{58}, 10, true)
	checkPasses(t, "too thin, less acc", b, l, []int{57}, 10, false)
	checkPasses(t, "nothing", b, l, []int{0}, 0, false)
	checkPasses(t, "less than nothing", b, l, []int{0}, api.MaxThick, false)
	checkPasses(t, "all", b, l, []int{api.MaxThick}, api.MaxThick-48, true)
	checkPasses(t, "all that may be wrong", b, l, []int{api.MaxThick}, api.MaxThick-47, false)
	checkPasses(t, "too thick", b, l, []int{api.MaxThick + 1}, 0, false)
	checkPasses(t, "as thick as can be told", b, l, []int{2 * api.MaxThick}, api.MaxThick, false)
	checkPasses(t, "nothing is enough", b, api.Load{Other: 63246}, []int{api.MaxThick}, 0, false)
	checkPasses(t, "nothing is needed", b, api.Load{}, []int{1}, 0, true)
	checkPasses(t, "nothing is needed, but something", b, api.Load{}, []int{0}, 0, false)
	checkPasses(t, "all rings", three(), l, []int{62, 49, 27}, 0, true)
	checkPasses(t, "all but the first one", three(), l, []int{61, 49, 27}, 0, false)
	checkPasses(t, "all but the last one", three(), l, []int{62, 49, 26}, 0, false)
}

// TestLightest: the least gob that makes all rings thick enough (P5.4).
func TestLightest(t *testing.T) {
	b, l := example(), api.Load{Press: 1000}
	checkLightest(t, "example", b, l, 227)
	checkLightest(t, "nothing, but a wall", b, api.Load{}, 5)
	checkLightest(t, "no thickness is enough", b, api.Load{Other: 63246}, 0)
	b.Rings[0].Share = span(0, 1000)
	checkLightest(t, "a ring may get nothing", b, api.Load{}, 0)
	b.Rings[0] = api.Ring{Radius: just(1000), Height: just(5000), Share: just(1000), Factor: just(1000)}
	checkLightest(t, "a great bottle", b, api.Load{Press: 1000}, 12488)
	b.Rings[0].Height.Low = 1
	checkLightest(t, "a bottle that may be great", b, api.Load{Press: 1000}, 12488)
	b.Rings[0].Share = span(125, 1000)
	checkLightest(t, "just heavy enough", b, api.Load{Press: 1000}, 99903)
	b.Rings[0].Share.Low = 124
	checkLightest(t, "just too heavy", b, api.Load{Press: 1000}, 0)
	b = three()
	b.Rings[1].Factor.High = api.MaxFactor
	checkLightest(t, "one ring cannot", b, api.Load{Press: 10000, Other: 30000}, 0)
	small := bottle(api.Ring{Radius: just(1), Height: just(1), Share: just(1000)})
	checkLightest(t, "thicker than walls are", small, api.Load{Other: 1}, 1)
}

// wrongNeeds spoil a bottle and a load, in the order of the errors.
func wrongNeeds() []wrong { return append(wrongBottles(), wrongLoads()...) }

// TestNeedErrors: Check's error, then that of the load, then that of what was measured (P5.4).
func TestNeedErrors(t *testing.T) {
	inOrder(t, "Needed", wrongNeeds(), func(c call) []any {
		got, e := strength.Needed(c.b, c.l)
		return []any{got, e}
	})
	inOrder(t, "Lightest", wrongNeeds(), func(c call) []any {
		got, e := strength.Lightest(c.b, c.l)
		return []any{got, e}
	})
	list := append(wrongNeeds(),
		wrong{api.ErrArg, func(c *call) { c.measured = nil }},
		wrong{api.ErrArg, func(c *call) { c.measured = c.measured[:2] }},
		wrong{api.ErrArg, func(c *call) { c.measured = make([]int, 4) }},
		wrong{api.ErrArg, func(c *call) { c.measured = []int{-1, 0, 0} }},
		wrong{api.ErrArg, func(c *call) { c.measured = []int{0, 0, 2*api.MaxThick + 1} }},
		wrong{api.ErrArg, func(c *call) { c.measured = []int{0, math.MinInt, 0} }},
		wrong{api.ErrArg, func(c *call) { c.acc = -1 }},
		wrong{api.ErrArg, func(c *call) { c.acc = api.MaxThick + 1 }},
		wrong{api.ErrArg, func(c *call) { c.acc = math.MinInt }},
	)
	inOrder(t, "Passes", list, func(c call) []any {
		got, e := strength.Passes(c.b, c.l, c.measured, c.acc)
		return []any{got, e}
	})
	// What cannot pass anyhow does not hide an error.
	c := good()
	c.l.Other, c.measured = api.MaxShock, []int{0, 0, -1}
	_, e := strength.Passes(c.b, c.l, c.measured, c.acc)
	equal(t, "measured", e, api.ErrArg)
}

// checkKept compares how long a loop keeps a bottle.
func checkKept(t *testing.T, what string, c call, want int, e api.Errno) {
	t.Helper()
	at, got := strength.Kept(c.b, c.l, c.loop, c.set, c.most)
	equal(t, what+": error", got, e)
	equal(t, what, at, want)
}

// TestKept: whether a loop keeps the weights from the lightest one to the most (P5.5).
func TestKept(t *testing.T) {
	c := good()
	c.b, c.l = example(), api.Load{Press: 4000}
	checkLightest(t, "lightest", c.b, c.l, 896)
	c.most, c.loop.Drift = 1100, 0
	checkKept(t, "for ever", c, -1, api.OK)
	c.set = nil
	checkKept(t, "nothing comes", c, -1, api.OK)
	c.set = feed(895)
	checkKept(t, "too light", c, 0, api.OK)
	c.set = feed(896)
	checkKept(t, "just heavy enough", c, -1, api.OK)
	c.set = feed(1100)
	checkKept(t, "just light enough", c, -1, api.OK)
	c.set = feed(1101)
	checkKept(t, "too heavy", c, 0, api.OK)
	c.set, c.loop.Drift, c.loop.Tube = feed(1000), 1, just(5)
	checkKept(t, "the tube is stuck", c, 101, api.OK)
	c.most = 1010
	checkKept(t, "the tube is stuck: too heavy", c, 11, api.OK)
	c.most, c.set = 1100, feed(906)
	checkKept(t, "the tube is stuck: too light", c, 11, api.OK)
	c.set, c.most = feed(896), 896
	checkKept(t, "one weight", c, 1, api.OK)
	c.loop.Drift = 0
	checkKept(t, "one weight that stays", c, -1, api.OK)
	c.most = 895
	checkKept(t, "no weight", c, 0, api.ErrScope)
	c.most = 0
	checkKept(t, "nothing", c, 0, api.ErrScope)
	c.most, c.l = api.MaxGob, api.Load{Other: 63246}
	checkKept(t, "no bottle holds", c, 0, api.ErrScope)
}

// many is a cell of so many weights, from one on.
func many(tube, from, count int) api.Cell {
	c := api.Cell{Tube: tube}
	for i := range count {
		c.Weights = append(c.Weights, just(from+9*i))
	}
	return c
}

// TestKeptErrors: Lightest's errors, those of most, the loop, the cells and the scope, then Ever's last one (P5.5).
func TestKeptErrors(t *testing.T) {
	list := append(wrongNeeds(),
		wrong{api.ErrArg, func(c *call) { c.most = -1 }},
		wrong{api.ErrArg, func(c *call) { c.most = api.MaxGob + 1 }},
		wrong{api.ErrArg, func(c *call) { c.loop.Band = span(1, 0) }},
		wrong{api.ErrArg, func(c *call) { c.loop.Every = 0 }},
		wrong{api.ErrLimit, func(c *call) { c.set = []api.Cell{many(5, 1000, api.MaxPieces+1)} }},
		wrong{api.ErrArg, func(c *call) { c.set = feed(2*api.MaxGob + 1) }},
		wrong{api.ErrArg, func(c *call) { c.set = []api.Cell{{Tube: 5}} }},
		wrong{api.ErrScope, func(c *call) { c.most = 1 }},
		wrong{api.ErrScope, func(c *call) { c.l.Other = api.MaxShock }},
	)
	inOrder(t, "Kept", list, func(c call) []any {
		at, e := strength.Kept(c.b, c.l, c.loop, c.set, c.most)
		return []any{at, e}
	})
	c := good()
	// What goes down comes between what stands there.
	c.most, c.set = api.MaxGob, []api.Cell{many(0, 1100, api.MaxPieces), many(1, 1103, api.MaxPieces)}
	c.loop.Gain, c.loop.Drift = just(0), 0
	ever, at, want := gobs.Ever(c.loop, c.set, span(lightest(c), c.most))
	equal(t, "Ever", onlyError([]any{ever, at, want}, api.ErrLimit), true)
	checkKept(t, "Ever's last error", c, 0, api.ErrLimit)
	c.most = 1
	checkKept(t, "Ever's last error comes last", c, 0, api.ErrScope)
}

func lightest(c call) int {
	n, e := strength.Lightest(c.b, c.l)
	if e != api.OK {
		panic(e)
	}
	return n
}

// TestKeptModel: of all loops, Kept tells the same as gobs.Ever (P5.5).
func TestKeptModel(t *testing.T) {
	r := newRand(51)
	kinds := map[bool]int{}
	for range 300 {
		c := good()
		c.b, c.l = example(), api.Load{Press: 3500 + r.Intn(1000)}
		c.loop.Drift, c.loop.Error = r.Intn(3), r.Intn(5)
		c.loop.Every = 1 + r.Intn(4)
		c.set, c.most = feed(980+r.Intn(50)), lightest(c)+r.Intn(250)
		_, at, e := gobs.Ever(c.loop, c.set, span(lightest(c), c.most))
		checkKept(t, "loop", c, at, e)
		kinds[at < 0]++
	}
	equal(t, "both", kinds[true] > 30 && kinds[false] > 30, true)
}
