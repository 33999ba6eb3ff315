package strength_test

import (
	"testing"

	"cullet/api"
	"cullet/gobs"
	"cullet/strength"
)

// verdict is what Holds tells of what may be.
func verdict(t *testing.T, b api.Bottle, thick []api.Span, l api.Load) (holds, breaks bool) {
	t.Helper()
	holds, breaks, e := strength.Holds(b, thick, l)
	equal(t, "error", e, api.OK)
	return holds, breaks
}

// TestNotBoth: a bottle that surely holds does not surely break, and Burst's Low is less than its High (P5.9).
func TestNotBoth(t *testing.T) {
	r := newRand(71)
	for range 1000 {
		b, l := someBottle(r), someLoad(r)
		thick := someThick(r, b)
		holds, breaks := verdict(t, b, thick, l)
		equal(t, "both", holds && breaks, false)
		burst, e := strength.Burst(b, thick, l)
		equal(t, "error", e, api.OK)
		equal(t, "burst", burst.Low < burst.High, true)
	}
}

// TestStillHolds: with thicker walls, less load, or less deep flaws, what surely held still does (P5.9).
func TestStillHolds(t *testing.T) {
	r := newRand(72)
	held := 0
	for range 3000 {
		b, l := someBottle(r), someLoad(r)
		thick := someThick(r, b)
		if holds, _ := verdict(t, b, thick, l); !holds {
			continue
		}
		held++
		for i, s := range thick {
			thick[i] = about(r, s.Low, api.MaxThick, 50)
		}
		l.Press, l.Force = r.Intn(l.Press+1), r.Intn(l.Force+1)
		l.Speed, l.Other = r.Intn(l.Speed+1), r.Intn(l.Other+1)
		b.Flaw -= r.Intn(b.Flaw)
		holds, _ := verdict(t, b, thick, l)
		equal(t, "still", holds, true)
	}
	equal(t, "held", held > 300, true)
}

// within is some bottle that another one may really be: all of its measures are known.
func within(b api.Bottle, of func(api.Span) int) api.Bottle {
	rings := append([]api.Ring{}, b.Rings...)
	for i, r := range rings {
		r.Radius, r.Height = just(of(r.Radius)), just(of(r.Height))
		r.Factor, r.Hit = just(of(r.Factor)), just(of(r.Hit))
		r.Share = span(0, 1000) // so that the bottle may be; no stress asks for it
		rings[i] = r
	}
	b.Rings = rings
	return b
}

// TestWhateverItIs: what a bottle surely does it does, whatever its measures and thicknesses really are (P5.9, P0.1).
func TestWhateverItIs(t *testing.T) {
	r := newRand(73)
	kinds := map[string]int{}
	some := func(s api.Span) int { return s.Low + r.Intn(s.High-s.Low+1) }
	for range 3000 {
		b, l := someBottle(r), someLoad(r)
		thick := someThick(r, b)
		holds, breaks := verdict(t, b, thick, l)
		var real []api.Span
		for _, s := range thick {
			real = append(real, just(some(s)))
		}
		h, br := verdict(t, within(b, some), real, l)
		if holds {
			equal(t, "holds", h, true)
			kinds["holds"]++
		}
		if breaks {
			equal(t, "breaks", !h, true)
			kinds["breaks"]++
		}
		if !holds && !breaks && (h || br) {
			kinds["open"]++
		}
	}
	equal(t, "kinds", kinds["holds"] > 100 && kinds["breaks"] > 100 && kinds["open"] > 100, true)
}

// TestThicknessIsIn: whatever weight and measures really are, the thickness lies in what Thickness tells (P5.9, P0.1).
func TestThicknessIsIn(t *testing.T) {
	r := newRand(74)
	some := func(s api.Span) int { return s.Low + r.Intn(s.High-s.Low+1) }
	const over, under = 3141592653590, 1000000000000 // the circle's number, to twelve digits
	for range 2000 {
		b, weights := someBottle(r), about(r, 1, 5000, 400)
		thick, e := strength.Thickness(b, weights)
		equal(t, "error", e, api.OK)
		for i, x := range b.Rings {
			real := rat([]int{200, some(weights), some(x.Share), under}, []int{over, some(x.Radius), some(x.Height)})
			if floor(real) < thick[i].Low || ceil(real) > thick[i].High {
				t.Error(x, weights, thick[i], real)
			}
		}
	}
}

// TestPassedHolds: whatever passed holds, for all thicknesses that differ from what was measured by at most acc (P5.9, P0.3).
func TestPassedHolds(t *testing.T) {
	r := newRand(75)
	passed := 0
	for range 1500 {
		b, l := someBottle(r), someLoad(r)
		needed, e := strength.Needed(b, l)
		equal(t, "error", e, api.OK)
		acc := r.Intn(30)
		var measured []int
		for _, n := range needed {
			measured = append(measured, n+acc-r.Intn(2)*r.Intn(2)*r.Intn(2)*r.Intn(acc+1)+r.Intn(2)*r.Intn(99))
		}
		passes, e := strength.Passes(b, l, measured, acc)
		equal(t, "error", e, api.OK)
		if !passes {
			continue
		}
		passed++
		var thick []api.Span
		for _, m := range measured {
			thick = append(thick, span(m-acc, min(m+acc, api.MaxThick)))
		}
		holds, breaks := verdict(t, b, thick, l)
		equal(t, "holds", [2]bool{holds, breaks}, [2]bool{true, false})
	}
	equal(t, "passed", passed > 100, true)
}

// TestKeptHolds: if a loop keeps the weight for ever, every bottle whose gob comes of it surely holds (P5.9).
func TestKeptHolds(t *testing.T) {
	r := newRand(76)
	kept := 0
	for range 300 {
		c := good()
		c.b, c.l = example(), api.Load{Press: 3500 + r.Intn(1000)}
		c.loop.Drift, c.loop.Error = 0, r.Intn(5)
		c.set, c.most = feed(980+r.Intn(50)), lightest(c)+r.Intn(250)
		at, e := strength.Kept(c.b, c.l, c.loop, c.set, c.most)
		equal(t, "error", e, api.OK)
		if at >= 0 {
			continue
		}
		kept++
		set := c.set
		for range 12 {
			hull, _ := gobs.Hull(set)
			thick, e := strength.Thickness(c.b, hull)
			equal(t, "error", e, api.OK)
			holds, _ := verdict(t, c.b, thick, c.l)
			equal(t, "holds", holds, true)
			set, e = gobs.Next(c.loop, set)
			equal(t, "error", e, api.OK)
		}
	}
	equal(t, "kept", kept > 50, true)
}

// TestSlower: a lehr that is twice as slow leaves no more strain (P5.9).
func TestSlower(t *testing.T) {
	r := newRand(77)
	less := 0
	for range 1000 {
		l, temps, thick := someLehr(r, 9999), about(r, 0, 9999, 500), 1+r.Intn(api.MaxThick)
		slow := api.Lehr{Factor: l.Factor}
		for _, k := range l.Knees {
			slow.Knees = append(slow.Knees, api.Knee{Minute: 2 * k.Minute, Temp: k.Temp})
		}
		fast, e := strength.Strain(l, temps, thick)
		equal(t, "error", e, api.OK)
		half, e := strength.Strain(slow, temps, thick)
		equal(t, "error", e, api.OK)
		equal(t, "no more", half <= fast, true)
		if half < fast {
			less++
		}
	}
	equal(t, "less", less > 100, true)
}

// TestShockIsIn: whatever the glass really is, its stress lies in what Shock tells (P0.1).
func TestShockIsIn(t *testing.T) {
	r := newRand(78)
	for range 500 {
		v, degrees := about(r, -500, 1500, 300), r.Intn(1001)
		got, e := strength.Shock(mix(v), mixed(), 0, degrees)
		equal(t, "error", e, api.OK)
		real := rat([]int{35, max(0, v.Low+r.Intn(v.High-v.Low+1)), degrees}, []int{78})
		equal(t, "in", got.Low <= floor(real) && ceil(real) <= got.High, true)
	}
}
