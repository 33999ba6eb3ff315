package strength_test

import (
	"math"
	"math/big"
	"testing"

	"cullet/api"
	"cullet/batch"
	"cullet/strength"
)

// checkShock compares what so many degrees make of glass that expands so.
func checkShock(t *testing.T, what string, expansion api.Span, degrees int, want api.Span) {
	t.Helper()
	got, e := strength.Shock(mix(just(1), expansion), mixed(), 1, degrees)
	fine(t, what, got, e, want)
}

// TestShock: 35 * expansion * degrees / 78 (P5.6).
func TestShock(t *testing.T) {
	checkShock(t, "example", span(850, 900), 40, span(15256, 16154))
	checkShock(t, "no degrees", span(850, 900), 0, just(0))
	checkShock(t, "just so", just(78), 1, just(35))
	checkShock(t, "a little", just(1), 1, span(0, 1))
	checkShock(t, "nothing", just(0), 1000, just(0))
	checkShock(t, "most", just(api.MaxCoef), 1000, span(4487179, 4487180))
	checkShock(t, "may shrink", span(-9, 78), 3, span(0, 105))
	checkShock(t, "shrinks", span(-900, -850), 40, just(0))
	checkShock(t, "shrinks a little", just(-1), 1, just(0))
	checkShock(t, "may stay", span(-78, 0), 1, just(0))
}

// wrongMixes spoil a recipe and its property, in the order of batch.Value's errors.
func wrongMixes() []wrong {
	return []wrong{
		{api.ErrName, func(c *call) { c.batch.Oxides = []string{"Si", "na"} }},
		{api.ErrArg, func(c *call) { c.recipe = []int{1} }},
		{api.ErrNone, func(c *call) { c.property, c.annealing = 2, -1 }},
		{api.ErrState, func(c *call) { c.recipe = []int{1, 0} }},
	}
}

// TestShockErrors: batch.Value's errors, then that of the degrees (P5.6).
func TestShockErrors(t *testing.T) {
	list := append(wrongMixes(),
		wrong{api.ErrArg, func(c *call) { c.degrees = -1 }},
		wrong{api.ErrArg, func(c *call) { c.degrees = 1001 }},
		wrong{api.ErrArg, func(c *call) { c.degrees = math.MinInt }},
	)
	inOrder(t, "Shock", list, func(c call) []any {
		got, e := strength.Shock(c.batch, c.recipe, c.property, c.degrees)
		return []any{got, e}
	})
}

// wrongLehrs spoil a lehr, in the order of its errors.
func wrongLehrs() []wrong {
	return []wrong{
		{api.ErrLimit, func(c *call) { c.lehr.Knees = make([]api.Knee, api.MaxKnees+1) }},
		{api.ErrArg, func(c *call) { c.lehr.Knees = nil }},
		{api.ErrArg, func(c *call) { c.lehr.Knees = []api.Knee{{Minute: 0, Temp: 5600}} }},
		{api.ErrArg, func(c *call) { c.lehr.Knees = lehr(0, 1, 5600, 2, 5600).Knees }},
		{api.ErrArg, func(c *call) { c.lehr.Knees = lehr(0, -1, 5600, 2, 5600).Knees }},
		{api.ErrArg, func(c *call) { c.lehr.Knees = lehr(0, 0, 5600, 0, 5600).Knees }},
		{api.ErrArg, func(c *call) { c.lehr.Knees = lehr(0, 0, 5600, 5, 5600, 4, 5600).Knees }},
		{api.ErrArg, func(c *call) { c.lehr.Knees = lehr(0, 0, 5600, math.MinInt, 5600).Knees }},
		{api.ErrArg, func(c *call) { c.lehr.Knees = lehr(0, 0, 5600, api.MaxMinutes+1, 5600).Knees }},
		{api.ErrArg, func(c *call) { c.lehr.Knees = lehr(0, 0, -1, 5, 5600).Knees }},
		{api.ErrArg, func(c *call) { c.lehr.Knees = lehr(0, 0, 5600, 5, api.MaxDegrees+1).Knees }},
		{api.ErrArg, func(c *call) { c.lehr.Factor = -1 }},
		{api.ErrArg, func(c *call) { c.lehr.Factor = api.MaxFactor + 1 }},
	}
}

// TestCheckLehr: each thing that may not be, and the limits, which may (P5.7).
func TestCheckLehr(t *testing.T) {
	inOrder(t, "CheckLehr", wrongLehrs(), func(c call) []any { return []any{strength.CheckLehr(c.lehr)} })
	most := lehr(api.MaxFactor, 0, 0)
	for i := range api.MaxKnees - 2 {
		most.Knees = append(most.Knees, api.Knee{Minute: i + 1, Temp: api.MaxDegrees})
	}
	most.Knees = append(most.Knees, api.Knee{Minute: api.MaxMinutes, Temp: 0})
	for what, l := range map[string]api.Lehr{"curve": curve(), "most": most, "least": lehr(0, 0, 0, 1, 0)} {
		equal(t, what, strength.CheckLehr(l), api.OK)
	}
}

// checkSteepest compares how fast a lehr cools at most.
func checkSteepest(t *testing.T, what string, l api.Lehr, temps api.Span, num, den int) {
	t.Helper()
	got, e := strength.Steepest(l, temps)
	fine(t, what, got, e, api.Ratio{Num: num, Den: den})
}

// TestSteepest: the greatest fall of the pieces that come through the temperatures (P5.7).
func TestSteepest(t *testing.T) {
	l := curve()
	checkSteepest(t, "example", l, span(4900, 5500), 10, 1)
	checkSteepest(t, "all", l, span(0, api.MaxDegrees), 200, 1)
	checkSteepest(t, "above", l, span(5601, api.MaxDegrees), 0, 1)
	checkSteepest(t, "below", l, span(0, 599), 0, 1)
	checkSteepest(t, "the knee below", l, span(0, 600), 200, 1)
	checkSteepest(t, "the knee above", l, just(5600), 10, 1)
	checkSteepest(t, "both pieces at a knee", l, just(4600), 200, 1)
	checkSteepest(t, "just above a knee", l, just(4601), 10, 1)
	checkSteepest(t, "within a piece", l, just(5000), 10, 1)
	checkSteepest(t, "nothing falls", lehr(0, 0, 500, 5, 500, 6, 900), span(0, 1000), 0, 1)
	checkSteepest(t, "rising counts for nothing", lehr(0, 0, 500, 1, 900, 5, 880), span(0, 1000), 5, 1)
	checkSteepest(t, "lowest terms", lehr(0, 0, 500, 6, 496), span(0, 1000), 2, 3)
	checkSteepest(t, "less than one", lehr(0, 0, 1, api.MaxMinutes, 0), span(0, 1000), 1, 2000)
	checkSteepest(t, "as fast as can be", lehr(0, 0, api.MaxDegrees, 1, 0), just(1), api.MaxDegrees, 1)
	checkSteepest(t, "the first one", lehr(0, 0, 500, 3, 490, 6, 481, 9, 475), span(0, 1000), 10, 3)
	checkSteepest(t, "the last one", lehr(0, 0, 500, 5, 497, 10, 494, 13, 492), span(0, 1000), 2, 3)
	checkSteepest(t, "the middle one, of two", lehr(0, 0, 500, 5, 495, 7, 490, 9, 485, 14, 480), span(0, 1000), 5, 2)
	checkSteepest(t, "not the steepest one of all", lehr(0, 0, 900, 1, 500, 5, 490, 6, 100), span(491, 499), 5, 2)
}

// TestSteepestModel: of all lehrs, the greatest fall of a piece that has one of these temperatures (P5.7).
func TestSteepestModel(t *testing.T) {
	r := newRand(61)
	for range 3000 {
		l := someLehr(r, 60)
		temps := about(r, 0, 70, 20)
		most := new(big.Rat)
		for i, to := range l.Knees[1:] {
			from := l.Knees[i]
			for temp := to.Temp; temp <= from.Temp; temp++ {
				fall := big.NewRat(int64(from.Temp-to.Temp), int64(to.Minute-from.Minute))
				if temps.Low <= temp && temp <= temps.High && fall.Cmp(most) > 0 {
					most = fall
				}
			}
		}
		checkSteepest(t, "lehr", l, temps, int(most.Num().Int64()), int(most.Denom().Int64()))
	}
}

// checkHeld compares for how long a lehr keeps glass at a temperature.
func checkHeld(t *testing.T, what string, l api.Lehr, temp, want int) {
	t.Helper()
	got, e := strength.Held(l, temp)
	fine(t, what, got, e, want)
}

// TestHeld: the minutes of each piece, rounded down (P5.7).
func TestHeld(t *testing.T) {
	l := curve()
	checkHeld(t, "example", l, 5400, 50)
	checkHeld(t, "all", l, 0, 150)
	checkHeld(t, "all, just so", l, 600, 150)
	checkHeld(t, "all but a bit", l, 601, 149)
	checkHeld(t, "the first piece", l, 5600, 30)
	checkHeld(t, "nothing", l, 5601, 0)
	checkHeld(t, "nothing at all", l, api.MaxDegrees, 0)
	checkHeld(t, "a knee", l, 4600, 130)
	checkHeld(t, "a minute less a bit", l, 5591, 30)
	checkHeld(t, "a minute", l, 5590, 31)
	checkHeld(t, "each piece is rounded", lehr(0, 0, 0, 3, 2, 6, 0), 1, 2)
	checkHeld(t, "up and down and up", lehr(0, 0, 0, 10, 100, 20, 0, 30, 100), 50, 15)
	checkHeld(t, "a peak", lehr(0, 0, 0, 10, 100, 20, 0), 100, 0)
	checkHeld(t, "a trough", lehr(0, 0, 100, 10, 0, 20, 100), 100, 0)
	checkHeld(t, "rising", lehr(0, 0, 100, 7, 200), 150, 3)
	checkHeld(t, "falling", lehr(0, 0, 200, 7, 100), 150, 3)
	checkHeld(t, "as long as can be", lehr(0, 0, 0, api.MaxMinutes, api.MaxDegrees), 5, 1999)
}

// TestHeldModel: of all lehrs, the greatest number of whole minutes of each piece, from its hotter end on, at the end of which it is hot enough (P5.7).
func TestHeldModel(t *testing.T) {
	r := newRand(62)
	for range 3000 {
		l, temp := someLehr(r, 60), r.Intn(70)
		want := 0
		for i, to := range l.Knees[1:] {
			from := l.Knees[i]
			hot, cold, minutes := max(from.Temp, to.Temp), min(from.Temp, to.Temp), to.Minute-from.Minute
			for n := 1; n <= minutes && hot*minutes-(hot-cold)*n >= temp*minutes; n++ {
				want++
			}
		}
		checkHeld(t, "lehr", l, temp, want)
	}
}

// TestLehrErrors: CheckLehr's error, then those of the numbers (P5.7, P5.8).
func TestLehrErrors(t *testing.T) {
	list := wrongLehrs()
	for _, temps := range wrongSpans(0, api.MaxDegrees) {
		list = append(list, wrong{api.ErrArg, func(c *call) { c.temps, c.temp = temps, -1 }})
	}
	list = append(list, wrong{api.ErrArg, func(c *call) { c.temps, c.temp = span(-1, 0), api.MaxDegrees+1 }})
	inOrder(t, "Steepest", list, func(c call) []any {
		got, e := strength.Steepest(c.lehr, c.temps)
		return []any{got, e}
	})
	inOrder(t, "Held", list, func(c call) []any {
		got, e := strength.Held(c.lehr, c.temp)
		return []any{got, e}
	})
	for _, thick := range []int{0, -1, api.MaxThick + 1, math.MaxInt} {
		list = append(list, wrong{api.ErrArg, func(c *call) { c.wide = thick }})
	}
	inOrder(t, "Strain", list, func(c call) []any {
		got, e := strength.Strain(c.lehr, c.temps, c.wide)
		return []any{got, e}
	})
	for _, temps := range []api.Span{just(0), just(api.MaxDegrees), span(0, api.MaxDegrees)} {
		_, e := strength.Steepest(curve(), temps)
		equal(t, "temperatures", e, api.OK)
		_, e = strength.Held(curve(), temps.High)
		equal(t, "temperature", e, api.OK)
	}
}

// checkStrain compares how much strain a lehr leaves.
func checkStrain(t *testing.T, what string, l api.Lehr, temps api.Span, thick, want int) {
	t.Helper()
	got, e := strength.Strain(l, temps, thick)
	fine(t, what, got, e, want)
}

// TestStrain: Factor * rate * thick * thick / 1000000, rounded up (P5.8).
func TestStrain(t *testing.T) {
	l, temps := curve(), span(4900, 5500)
	checkStrain(t, "example", l, temps, 300, 90)
	checkStrain(t, "a bit thicker", l, temps, 301, 91)
	checkStrain(t, "thin", l, temps, 1, 1)
	checkStrain(t, "just so", l, temps, 1000, 1000)
	checkStrain(t, "nothing falls", l, just(api.MaxDegrees), api.MaxThick, 0)
	l.Factor = 0
	checkStrain(t, "no factor", l, temps, api.MaxThick, 0)
	checkStrain(t, "most", lehr(api.MaxFactor, 0, api.MaxDegrees, 1, 0), just(0), api.MaxThick, 400000000)
	checkStrain(t, "the rate is not rounded", lehr(100, 0, 500, 3, 499), just(500), 1000, 34)
	checkStrain(t, "two thirds", lehr(3, 0, 500, 6, 496), just(500), 1000, 2)
	checkStrain(t, "a bit more", lehr(3, 0, 500, 6, 496), just(500), 1001, 3)
}

// TestStrainModel: of all lehrs, what Steepest's rate makes (P5.8).
func TestStrainModel(t *testing.T) {
	r := newRand(63)
	for range 1000 {
		l, temps, thick := someLehr(r, 9999), about(r, 0, 9999, 500), 1+r.Intn(api.MaxThick)
		rate, e := strength.Steepest(l, temps)
		equal(t, "error", e, api.OK)
		checkStrain(t, "lehr", l, temps, thick, ceil(rat([]int{l.Factor, rate.Num, thick, thick}, []int{1000000, rate.Den})))
	}
}

// checkAnneals compares whether a lehr is good enough.
func checkAnneals(t *testing.T, what string, change func(*call), want bool, e api.Errno) {
	t.Helper()
	c := good()
	change(&c)
	got, is := c.anneals()
	equal(t, what+": error", is, e)
	equal(t, what, got, want)
}

// TestAnneals: as long as the soak at the annealing point, and no more strain than the limit below it (P5.8).
func TestAnneals(t *testing.T) {
	// Of a point from 5400 to 5500 the lehr holds 5500 for 40 minutes, and falls by 10 a minute down to 4600.
	for what, x := range map[string]struct {
		soak, limit, below int
		want               bool
	}{
		"good":                    {40, 90, 500, true},
		"no soak":                 {0, 90, 500, true},
		"soaked for too short":    {41, 90, 500, false},
		"too much strain":         {40, 89, 500, false},
		"neither":                 {41, 89, 500, false},
		"any limit":               {40, math.MaxInt, 500, true},
		"no strain is allowed":    {40, 0, 500, false},
		"nothing below the point": {40, 90, 0, true},
		"down to the knee":        {40, 90, 799, true},
		"at the knee":             {40, 90, 800, false},
		"at the knee, with more":  {40, 1800, 800, true},
		"at the knee, less one":   {40, 1799, 800, false},
		"all the way down":        {40, 1800, 5400, true},
	} {
		checkAnneals(t, what, func(c *call) { c.soak, c.limit, c.below = x.soak, x.limit, x.below }, x.want, api.OK)
	}
	hot := func(c *call) { c.batch = mix(just(0), span(5400, 5600)); c.soak = 30 }
	checkAnneals(t, "the High counts", hot, true, api.OK)
	checkAnneals(t, "the High counts, less", func(c *call) { hot(c); c.soak = 31 }, false, api.OK)
	checkAnneals(t, "never so hot", func(c *call) { c.batch = mix(just(0), span(5400, 5601)); c.soak = 1 }, false, api.OK)
	checkAnneals(t, "as hot as can be", func(c *call) { c.batch, c.soak = mix(just(0), just(api.MaxDegrees)), 0 }, true, api.OK)
	checkAnneals(t, "hotter than that below", func(c *call) { c.batch, c.soak, c.limit = mix(just(0), just(5700)), 0, 0; c.below = 99 }, true, api.OK)
	checkAnneals(t, "just as hot below", func(c *call) { c.batch, c.soak, c.limit = mix(just(0), just(5700)), 0, 0; c.below = 100 }, false, api.OK)
	checkAnneals(t, "below 0", func(c *call) { c.below = 5401 }, false, api.ErrScope)
	checkAnneals(t, "a point that may be below 0", func(c *call) { c.batch, c.below = mix(just(0), span(-1, 100)), 0 }, false, api.ErrScope)
	checkAnneals(t, "a point at 0", func(c *call) { c.batch, c.below = mix(just(0), just(0)), 0 }, true, api.OK)
}

// TestAnnealsModel: of all lehrs, Anneals tells what Value, Held and Strain do (P5.8).
func TestAnnealsModel(t *testing.T) {
	r := newRand(64)
	kinds := map[bool]int{}
	for range 1000 {
		c := good()
		c.lehr = someLehr(r, 9999)
		c.batch = mix(just(0), about(r, 2000, 9000, 500))
		c.below, c.soak, c.wide, c.limit = r.Intn(2000), r.Intn(40), 1+r.Intn(api.MaxThick), r.Intn(3000)
		point, _ := batch.Value(c.batch, c.recipe, c.annealing)
		held, _ := strength.Held(c.lehr, point.High)
		strain, _ := strength.Strain(c.lehr, span(point.Low-c.below, point.High), c.wide)
		got, e := c.anneals()
		fine(t, "lehr", got, e, held >= c.soak && strain <= c.limit)
		kinds[got]++
	}
	equal(t, "both", kinds[true] > 50 && kinds[false] > 50, true)
}

// TestAnnealsErrors: CheckLehr's error, batch.Value's, those of the numbers, then that of the scope (P5.8).
func TestAnnealsErrors(t *testing.T) {
	list := append(wrongLehrs(), wrongMixes()...)
	for _, spoil := range []func(*call){
		func(c *call) { c.below = -1 },
		func(c *call) { c.below = api.MaxDegrees + 1 },
		func(c *call) { c.below = math.MinInt },
		func(c *call) { c.soak = -1 },
		func(c *call) { c.soak = api.MaxMinutes + 1 },
		func(c *call) { c.wide = 0 },
		func(c *call) { c.wide = api.MaxThick + 1 },
		func(c *call) { c.limit = -1 },
		func(c *call) { c.limit = math.MinInt },
	} {
		list = append(list, wrong{api.ErrArg, spoil})
	}
	list = append(list, wrong{api.ErrScope, func(c *call) { c.batch.Properties = mix(just(0), just(499)).Properties }})
	inOrder(t, "Anneals", list, func(c call) []any {
		got, e := c.anneals()
		return []any{got, e}
	})
	limits := func(c *call) {
		c.batch, c.below = mix(just(0), just(api.MaxDegrees)), api.MaxDegrees
		c.soak, c.wide = api.MaxMinutes, api.MaxThick
	}
	checkAnneals(t, "limits", limits, false, api.OK)
}
