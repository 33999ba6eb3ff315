package strength_test

import (
	"math"
	"math/big"
	"testing"

	"cullet/api"
	"cullet/strength"
)

// checkStress compares what a load makes of the rings of a bottle.
func checkStress(t *testing.T, what string, b api.Bottle, thick []api.Span, l api.Load, want ...api.Span) {
	t.Helper()
	got, e := strength.Stress(b, thick, l)
	fine(t, what, got, e, want)
}

// checkHolds compares whether a bottle surely holds, and whether it surely breaks.
func checkHolds(t *testing.T, what string, b api.Bottle, thick []api.Span, l api.Load, holds, breaks bool) {
	t.Helper()
	h, br, e := strength.Holds(b, thick, l)
	fine(t, what, [2]bool{h, br}, e, [2]bool{holds, breaks})
}

// TestStress: each part of a load, and all of them (P5.2).
func TestStress(t *testing.T) {
	b := example()
	at := justs(200)
	checkStress(t, "example", b, at, api.Load{Press: 1000}, just(15000))
	checkStress(t, "example of three", b, at, api.Load{Force: 1000, Speed: 100, Other: 7}, span(2909, 2910))
	checkStress(t, "nothing", b, at, api.Load{}, just(0))
	checkStress(t, "pressure", b, justs(199), api.Load{Press: 1000}, span(15075, 15076))
	checkStress(t, "force", b, at, api.Load{Force: 1000}, span(2652, 2653))
	checkStress(t, "blow", b, at, api.Load{Speed: 100}, just(250))
	checkStress(t, "a part of a blow", b, justs(199), api.Load{Speed: 100}, span(251, 252))
	checkStress(t, "other", b, at, api.Load{Other: api.MaxShock}, just(api.MaxShock))
	checkStress(t, "each part is rounded", b, justs(199), api.Load{Press: 1, Speed: 1}, span(17, 19))
	thick := []api.Span{span(100, 200)}
	checkStress(t, "thick or thin", b, thick, api.Load{Press: 1000, Speed: 100}, span(15250, 30500))
	b.Rings[0].Radius = span(200, 300)
	checkStress(t, "pressure, wide or narrow", b, at, api.Load{Press: 1000}, span(10000, 15000))
	checkStress(t, "force, wide or narrow", b, at, api.Load{Force: 1000}, span(2652, 3979))
	b.Rings[0].Factor, b.Rings[0].Hit = span(500, 2000), span(100, 600)
	checkStress(t, "factor", b, at, api.Load{Press: 1000}, span(5000, 30000))
	checkStress(t, "hit", b, at, api.Load{Speed: 100}, span(50, 300))
	b.Rings[0].Factor, b.Rings[0].Hit = just(0), just(0)
	checkStress(t, "no factors", b, at, api.Load{Press: 1000, Speed: 100, Other: 2}, just(2))
}

// TestStressCircle: of the weight on top, 355/113 makes the Low and 333/106 the High (P5.2).
func TestStressCircle(t *testing.T) {
	b := example()
	b.Rings[0].Radius = just(500)
	checkStress(t, "355/113 leaves nothing over", b, justs(1000), api.Load{Force: 355}, span(113, 114))
	checkStress(t, "333/106 leaves nothing over", b, justs(1000), api.Load{Force: 333}, span(105, 106))
	b.Rings[0].Radius = just(1)
	checkStress(t, "most", b, justs(1), api.Load{Force: api.MaxForce}, span(3183098591, 3183183184))
}

// TestStressModel: of all bottles, Stress and Holds tell what the chapter says (P5.2).
func TestStressModel(t *testing.T) {
	r := newRand(21)
	kinds := map[[2]bool]int{}
	for range 3000 {
		b, l := someBottle(r), someLoad(r)
		thick := someThick(r, b)
		var want []api.Span
		for i, x := range b.Rings {
			want = append(want, stressOf(x, thick[i], l))
		}
		checkStress(t, "bottle", b, thick, l, want...)
		holds, breaks := verdictOf(b, thick, l)
		checkHolds(t, "bottle", b, thick, l, holds, breaks)
		kinds[[2]bool{holds, breaks}]++
	}
	for _, k := range [][2]bool{{true, false}, {false, true}, {false, false}} {
		equal(t, "kinds", kinds[k] > 100, true)
	}
}

// TestHolds: a ring holds up to what its glass bears, that among it, and breaks beyond (P5.2).
func TestHolds(t *testing.T) {
	b := example()
	at := justs(200)
	other := func(n int) api.Load { return api.Load{Other: n} }
	checkHolds(t, "up to 63245", b, at, other(63245), true, false)
	checkHolds(t, "beyond", b, at, other(63246), false, true)
	checkHolds(t, "not known", b, []api.Span{span(200, 250)}, api.Load{Press: 4217}, false, false)
	for _, x := range []struct{ flaw, tough, bears int }{
		{1, 0, 0}, {1, 1, 1}, {1, 3, 1}, {1, 4, 2}, {1, 8, 2}, {1, 9, 3}, {10, 9, 0}, {10, 10, 1}, {10, 39, 1}, {10, 40, 2},
		{1000, 999, 0}, {1000, api.MaxTough, 1000000}, {1000, api.MaxTough - 1, 999999}, {999, api.MaxTough, 1000500}, {10, api.MaxTough, 10000000},
	} {
		b.Flaw, b.Tough = x.flaw, x.tough
		checkHolds(t, "just so", b, at, other(x.bears), true, false)
		if x.bears < api.MaxShock {
			checkHolds(t, "one more", b, at, other(x.bears+1), false, true)
		}
	}
	b.Flaw, b.Tough = 1, api.MaxTough
	checkHolds(t, "the toughest glass", b, justs(1), api.Load{Press: 10000, Other: 1622776}, true, false)
	checkHolds(t, "the toughest glass, beyond", b, justs(1), api.Load{Press: 10000, Other: 1622777}, false, true)
}

// TestHoldsOfAnySize: the square of a stress, times the flaw, may be too great for 64 bits (P5.2).
func TestHoldsOfAnySize(t *testing.T) {
	b := bottle(api.Ring{Radius: span(1, api.MaxRadius), Height: just(1), Share: just(1000), Factor: just(api.MaxFactor), Hit: just(api.MaxFactor)})
	b.Flaw, b.Tough = api.MaxFlaw, api.MaxTough
	most := api.Load{Press: api.MaxPress, Force: api.MaxForce, Speed: api.MaxSpeed, Other: api.MaxShock}
	checkStress(t, "most", b, justs(1), most, span(34183098, 4213183184))
	checkHolds(t, "most", b, justs(1), most, false, true)
	b.Flaw = 1
	checkHolds(t, "small flaws", b, justs(1), most, false, true)
	// Products that are just above powers of 2, so that not much would be left of them.
	b.Rings[0].Radius = just(api.MaxRadius)
	for _, b.Flaw = range []int{20, 100, 512, 999, 1000} {
		for _, bits := range []uint{63, 64} {
			square := new(big.Int).Lsh(big.NewInt(1), bits)
			least := new(big.Int).Sqrt(square.Div(square, big.NewInt(int64(b.Flaw)))).Int64() + 1
			l := api.Load{Press: int(least / 100000), Other: int(least % 100000)}
			checkStress(t, "great", b, justs(1), l, just(int(least)))
			checkHolds(t, "great", b, justs(1), l, false, true)
		}
	}
	b.Flaw, b.Tough = api.MaxFlaw, 0
	checkHolds(t, "nothing is borne", b, justs(1), api.Load{Other: 1}, false, true)
	checkHolds(t, "nothing is to be borne", b, justs(1), api.Load{}, true, false)
}

// TestHoldsRings: a bottle holds if all rings do, and breaks if one does (P5.2).
func TestHoldsRings(t *testing.T) {
	ring := func(factor api.Span) api.Ring {
		r := example().Rings[0]
		r.Share, r.Factor = just(500), factor
		return r
	}
	strong, weak, open := ring(just(100)), ring(just(5000)), ring(span(100, 5000))
	l := api.Load{Press: 1000}
	for i, x := range []struct {
		a, b          api.Ring
		holds, breaks bool
	}{
		{strong, strong, true, false}, {strong, weak, false, true}, {weak, strong, false, true}, {weak, weak, false, true},
		{strong, open, false, false}, {open, strong, false, false}, {open, open, false, false}, {open, weak, false, true}, {weak, open, false, true},
	} {
		holds, breaks, e := strength.Holds(bottle(x.a, x.b), justs(200, 200), l)
		if e != api.OK || holds != x.holds || breaks != x.breaks {
			t.Error(i, holds, breaks, e)
		}
	}
	checkHolds(t, "each ring has its thickness", bottle(weak, strong), justs(1900, 100), l, true, false)
	checkHolds(t, "each ring has its thickness", bottle(weak, strong), justs(100, 1900), l, false, true)
}

// wrongLoads spoil a load.
func wrongLoads() []wrong {
	return []wrong{
		{api.ErrArg, func(c *call) { c.l.Press = -1 }},
		{api.ErrArg, func(c *call) { c.l.Press = api.MaxPress + 1 }},
		{api.ErrArg, func(c *call) { c.l.Force = -1 }},
		{api.ErrArg, func(c *call) { c.l.Force = api.MaxForce + 1 }},
		{api.ErrArg, func(c *call) { c.l.Speed = math.MinInt }},
		{api.ErrArg, func(c *call) { c.l.Speed = api.MaxSpeed + 1 }},
		{api.ErrArg, func(c *call) { c.l.Other = -1 }},
		{api.ErrArg, func(c *call) { c.l.Other = api.MaxShock + 1 }},
	}
}

// wrongWalls spoil a bottle, its thicknesses and a load, in the order of the errors.
func wrongWalls() []wrong {
	list := append(wrongBottles(),
		wrong{api.ErrArg, func(c *call) { c.thick = nil }},
		wrong{api.ErrArg, func(c *call) { c.thick = c.thick[:2] }},
		wrong{api.ErrArg, func(c *call) { c.thick = justs(1, 1, 1, 1) }},
	)
	for i, s := range wrongSpans(1, api.MaxThick) {
		list = append(list, wrong{api.ErrArg, func(c *call) { c.thick = justs(1, 1, 1); c.thick[i%3] = s }})
	}
	return append(list, wrongLoads()...)
}

// TestWallErrors: Check's error, then that of the thicknesses, then that of the load (P5.2, P5.3).
func TestWallErrors(t *testing.T) {
	inOrder(t, "Stress", wrongWalls(), func(c call) []any {
		got, e := strength.Stress(c.b, c.thick, c.l)
		return []any{got, e}
	})
	inOrder(t, "Holds", wrongWalls(), func(c call) []any {
		holds, breaks, e := strength.Holds(c.b, c.thick, c.l)
		return []any{holds, breaks, e}
	})
	inOrder(t, "Burst", wrongWalls(), func(c call) []any {
		got, e := strength.Burst(c.b, c.thick, c.l)
		return []any{got, e}
	})
	c := good()
	c.thick = []api.Span{span(1, api.MaxThick), just(1), just(api.MaxThick)}
	c.l = api.Load{Press: api.MaxPress, Force: api.MaxForce, Speed: api.MaxSpeed, Other: api.MaxShock}
	_, e := strength.Stress(c.b, c.thick, c.l)
	equal(t, "limits", e, api.OK)
}

// checkBurst compares at which pressures a bottle bursts.
func checkBurst(t *testing.T, what string, b api.Bottle, thick []api.Span, l api.Load, want api.Span) {
	t.Helper()
	got, e := strength.Burst(b, thick, l)
	fine(t, what, got, e, want)
}

// TestBurst: the last pressure with which a bottle surely holds, and the first one with which it surely breaks (P5.3).
func TestBurst(t *testing.T) {
	b := example()
	wide := []api.Span{span(200, 250)}
	checkBurst(t, "example", b, wide, api.Load{}, span(4216, 5271))
	checkBurst(t, "the load's own pressure does not count", b, wide, api.Load{Press: 9999}, span(4216, 5271))
	checkBurst(t, "with something else", b, wide, api.Load{Other: 3245}, span(4000, 5001))
	checkBurst(t, "just holds", b, wide, api.Load{Other: 63245}, span(0, 1))
	checkBurst(t, "never holds", b, wide, api.Load{Other: 63246}, span(-1, 0))
	checkBurst(t, "may hold without pressure", b, wide, api.Load{Speed: 1250, Other: 60500}, span(-1, 21))
	checkBurst(t, "always holds", b, justs(api.MaxThick), api.Load{}, span(api.MaxPress, api.MaxPress+1))
	checkBurst(t, "may always hold", b, []api.Span{span(200, api.MaxThick)}, api.Load{}, span(4216, api.MaxPress+1))
	checkBurst(t, "nothing is known", b, []api.Span{span(1, api.MaxThick)}, api.Load{Speed: 2000}, span(-1, api.MaxPress+1))
	b.Rings[0].Factor = just(0)
	checkBurst(t, "no factor", b, wide, api.Load{Other: 5}, span(api.MaxPress, api.MaxPress+1))
	b.Rings[0].Factor = just(2108)
	checkBurst(t, "the last pressure of all", b, justs(1000), api.Load{}, span(api.MaxPress, api.MaxPress+1))
	checkBurst(t, "the last pressure of all breaks it", b, justs(1000), api.Load{Other: 6}, span(api.MaxPress-1, api.MaxPress))
}

// TestBurstModel: of all pressures, those that Holds says (P5.3).
func TestBurstModel(t *testing.T) {
	r := newRand(31)
	for range 40 {
		b, l := someBottle(r), someLoad(r)
		thick := someThick(r, b)
		want := span(-1, api.MaxPress+1)
		tried := l
		for tried.Press = 0; tried.Press <= api.MaxPress; tried.Press++ {
			holds, breaks, e := strength.Holds(b, thick, tried)
			equal(t, "error", e, api.OK)
			if holds {
				want.Low = tried.Press
			}
			if breaks {
				want.High = min(want.High, tried.Press)
			}
		}
		checkBurst(t, "bottle", b, thick, l, want)
	}
}
