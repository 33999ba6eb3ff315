package strength_test

import (
	"math"
	"testing"

	"cullet/api"
	"cullet/strength"
)

// wrongSpans are spans that are not within some numbers.
func wrongSpans(least, most int) []api.Span {
	return []api.Span{span(least-1, most), span(least, most+1), span(least+1, least), just(least - 1), just(most + 1), span(math.MinInt, math.MaxInt), span(math.MaxInt, math.MinInt)}
}

// wrongBottles spoil a bottle, in the order of its errors.
func wrongBottles() []wrong {
	return []wrong{
		{api.ErrLimit, func(c *call) { c.b.Rings = make([]api.Ring, api.MaxRings+1) }},
		{api.ErrArg, func(c *call) { c.b.Rings = nil }},
		{api.ErrArg, func(c *call) { c.b.Rings = three().Rings; c.b.Rings[2].Hit.High = -1 }},
		{api.ErrSum, func(c *call) { c.b.Rings = three().Rings; c.b.Rings[0].Share = span(0, 299) }},
		{api.ErrArg, func(c *call) { c.b.Flaw = 0 }},
		{api.ErrArg, func(c *call) { c.b.Tough = -1 }},
	}
}

// TestCheck: each thing that may not be, and the limits, which may (P5.1).
func TestCheck(t *testing.T) {
	equal(t, "example", strength.Check(example()), api.OK)
	equal(t, "three", strength.Check(three()), api.OK)
	inOrder(t, "Check", wrongBottles(), func(c call) []any { return []any{strength.Check(c.b)} })
	for what, x := range map[string]struct {
		of          func(*api.Ring) *api.Span
		least, most int
	}{
		"radius": {func(r *api.Ring) *api.Span { return &r.Radius }, 1, api.MaxRadius},
		"height": {func(r *api.Ring) *api.Span { return &r.Height }, 1, api.MaxHeight},
		"share":  {func(r *api.Ring) *api.Span { return &r.Share }, 0, 1000},
		"factor": {func(r *api.Ring) *api.Span { return &r.Factor }, 0, api.MaxFactor},
		"hit":    {func(r *api.Ring) *api.Span { return &r.Hit }, 0, api.MaxFactor},
	} {
		for i := range 3 {
			b := three()
			s := x.of(&b.Rings[i])
			*s = span(x.least, x.most)
			equal(t, what+" of all", strength.Check(b), api.OK)
			for _, *s = range wrongSpans(x.least, x.most) {
				equal(t, what, strength.Check(b), api.ErrArg)
			}
		}
	}
	for flaw, want := range map[int]api.Errno{0: api.ErrArg, 1: api.OK, api.MaxFlaw: api.OK, api.MaxFlaw + 1: api.ErrArg, math.MinInt: api.ErrArg} {
		b := three()
		b.Flaw = flaw
		equal(t, "flaw", strength.Check(b), want)
	}
	for tough, want := range map[int]api.Errno{-1: api.ErrArg, 0: api.OK, api.MaxTough: api.OK, api.MaxTough + 1: api.ErrArg, math.MaxInt: api.ErrArg} {
		b := three()
		b.Tough = tough
		equal(t, "tough", strength.Check(b), want)
	}
}

// TestCheckShares: the shares may be 1000 together, as far as they are known; that is asked behind all rings (P5.1).
func TestCheckShares(t *testing.T) {
	of := func(shares ...api.Span) api.Bottle {
		var rings []api.Ring
		for _, s := range shares {
			ring := example().Rings[0]
			ring.Share = s
			rings = append(rings, ring)
		}
		return bottle(rings...)
	}
	many := make([]api.Span, api.MaxRings)
	for i := range many {
		many[i] = span(41, 42)
	}
	for i, x := range []struct {
		b    api.Bottle
		want api.Errno
	}{
		{of(just(1000)), api.OK},
		{of(span(0, 1000)), api.OK},
		{of(just(999)), api.ErrSum},
		{of(span(0, 999)), api.ErrSum},
		{of(just(400), just(600)), api.OK},
		{of(just(400), just(601)), api.ErrSum},
		{of(span(400, 500), span(600, 700)), api.OK},
		{of(span(401, 500), span(600, 700)), api.ErrSum},
		{of(span(300, 400), span(500, 600)), api.OK},
		{of(span(300, 400), span(500, 599)), api.ErrSum},
		{of(span(0, 1000), span(0, 1000), just(0)), api.OK},
		{of(just(1000), just(1000), span(1, 0)), api.ErrArg},
		{of(just(1000), just(1001)), api.ErrArg},
		{of(many...), api.OK},
		{of(append(many, just(0))...), api.ErrLimit},
	} {
		if e := strength.Check(x.b); e != x.want {
			t.Error(i, e)
		}
	}
}

// checkThickness compares the thicknesses of a bottle.
func checkThickness(t *testing.T, what string, b api.Bottle, weights api.Span, want ...api.Span) {
	t.Helper()
	got, e := strength.Thickness(b, weights)
	fine(t, what, got, e, want)
}

// TestThickness: what the weight of a gob makes of each ring (P5.1).
func TestThickness(t *testing.T) {
	b := example()
	checkThickness(t, "example", b, just(1000), span(212, 213))
	checkThickness(t, "less or more", b, span(1000, 1010), span(212, 215))
	checkThickness(t, "a little", b, just(1), span(0, 1))
	checkThickness(t, "much", b, just(api.MaxGob), span(21220, 21222))
	b.Rings[0].Share = span(0, 1000)
	checkThickness(t, "a share that may be nothing", b, just(1000), span(0, 213))
	b.Rings[0].Share, b.Rings[0].Radius = just(1000), span(150, 300)
	checkThickness(t, "half the radius", b, just(1000), span(212, 425))
	b.Rings[0].Height = span(500, 2000)
	checkThickness(t, "half and twice the height", b, just(1000), span(106, 849))
	b.Rings[0] = api.Ring{Radius: just(200), Height: just(1000), Share: just(1000)}
	checkThickness(t, "355/113 leaves nothing over", b, just(355), span(113, 114))
	checkThickness(t, "333/106 leaves nothing over", b, just(333), span(105, 106))
	b.Rings[0] = api.Ring{Radius: just(1), Height: just(1), Share: just(1000)}
	checkThickness(t, "most", b, just(api.MaxGob), span(6366197183, 6366366367))
}

// TestThicknessModel: of all bottles, Thickness tells what the chapter says (P5.1).
func TestThicknessModel(t *testing.T) {
	r := newRand(11)
	for range 500 {
		b, weights := someBottle(r), about(r, 1, 5000, 400)
		var want []api.Span
		for _, x := range b.Rings {
			want = append(want, thicknessOf(x, weights))
		}
		checkThickness(t, "bottle", b, weights, want...)
	}
}

// TestThicknessErrors: Check's error, then that of the weights (P5.1).
func TestThicknessErrors(t *testing.T) {
	list := append(wrongBottles(), wrong{api.ErrArg, func(c *call) { c.weights = span(0, 5) }})
	inOrder(t, "Thickness", list, func(c call) []any {
		got, e := strength.Thickness(c.b, c.weights)
		return []any{got, e}
	})
	for _, weights := range wrongSpans(1, api.MaxGob) {
		got, e := strength.Thickness(example(), weights)
		equal(t, "weights", onlyError([]any{got, e}, api.ErrArg), true)
	}
	_, e := strength.Thickness(example(), span(1, api.MaxGob))
	equal(t, "all weights", e, api.OK)
}
