package ledger_test

import (
	"math"
	"testing"

	"cullet/api"
	"cullet/ledger"
)

func TestLoss(t *testing.T) {
	// dust may bring 1400 thousandths: then it loses nothing
	for material, want := range []api.Span{span(0, 20), span(420, 430), span(0, 1000), span(50, 100)} {
		got, e := ledger.Loss(mix(), material)
		fine(t, "loss", got, e, want)
	}
	x := mix()
	x.Materials[0].Content = []api.Span{span(400, 400), span(600, 600)}
	got, e := ledger.Loss(x, 0)
	fine(t, "nothing", got, e, span(0, 0))
	x.Materials[0].Content = []api.Span{span(0, 0), span(0, 0)}
	got, e = ledger.Loss(x, 0)
	fine(t, "all", got, e, span(1000, 1000))
	x.Materials[0].Content = []api.Span{span(300, 500), span(0, 500)}
	got, e = ledger.Loss(x, 0)
	fine(t, "just all", got, e, span(0, 700))
}

// wrongBatches are some of the errors of batch.Check.
func wrongBatches() []wrong {
	return []wrong{
		{api.ErrLimit, func(c *call) { c.x.Oxides = make([]string, api.MaxOxides+1) }},
		{api.ErrArg, func(c *call) { c.x.Oxides = nil }},
		{api.ErrName, func(c *call) { c.x.Oxides[0] = "Si" }},
		{api.ErrTwice, func(c *call) { c.x.Materials[1].Name = "sand" }},
		{api.ErrSum, func(c *call) { c.x.Materials[1].Content = []api.Span{span(600, 600), span(600, 600)} }},
		{api.ErrArg, func(c *call) { c.x.Wanted = 0 }},
	}
}

func TestLossErrors(t *testing.T) {
	all := wrongBatches()
	for _, material := range []int{-1, 4, math.MinInt, math.MaxInt} {
		all = append(all, wrong{api.ErrNone, func(c *call) { c.material = material }})
	}
	inOrder(t, "Loss", all, call.loss)
}

func TestRecipe(t *testing.T) {
	recycled := []api.Span{span(0, 0), span(0, 10), span(0, 0), span(500, 900)}
	for _, x := range []struct {
		recipe []int
		want   []api.Post
	}{
		{[]int{80, 60, 0, 20}, []api.Post{
			in(0, span(80, 80), span(0, 0), span(0, 20)), in(0, span(60, 60), span(0, 10), span(420, 430)), in(0, span(20, 20), span(500, 900), span(50, 100)),
			charge(0, 0, 80, 80), charge(0, 1, 60, 60), charge(0, 2, 20, 20),
		}},
		{[]int{0, 0, 7, 0}, []api.Post{in(0, span(7, 7), span(0, 0), span(0, 1000)), charge(0, 0, 7, 7)}},
		{[]int{0, 0, 0, 0}, nil},
		{[]int{0, api.MaxKilos, 0, 1}, []api.Post{
			in(0, span(api.MaxKilos, api.MaxKilos), span(0, 10), span(420, 430)), in(0, span(1, 1), span(500, 900), span(50, 100)),
			charge(0, 0, api.MaxKilos, api.MaxKilos), charge(0, 1, 1, 1),
		}},
	} {
		got, e := ledger.Recipe(mix(), x.recipe, recycled)
		list(t, "posts", got, e, x.want)
	}
	// so much may be recycled
	got, e := ledger.Recipe(mix(), []int{1, 0, 0, 0}, []api.Span{span(980, 980), span(570, 570), span(0, 0), span(0, 900)})
	list(t, "posts", got, e, []api.Post{in(0, span(1, 1), span(980, 980), span(0, 20)), charge(0, 0, 1, 1)})
}

func TestRecipeErrors(t *testing.T) {
	all := wrongBatches()
	for _, recipe := range [][]int{nil, {1, 2, 3}, {1, 2, 3, 4, 5}, {-1, 0, 0, 0}, {0, 0, 0, api.MaxKilos + 1}, {0, math.MaxInt, 0, 0}, {math.MinInt, 0, 0, 0}} {
		all = append(all, wrong{api.ErrArg, func(c *call) { c.recipe = recipe }})
	}
	for _, recycled := range [][]api.Span{nil, {span(0, 0)}, make([]api.Span, 5)} {
		all = append(all, wrong{api.ErrArg, func(c *call) { c.recycled = recycled }})
	}
	for _, s := range noSpans(1000) {
		all = append(all, wrong{api.ErrArg, func(c *call) { c.recycled[3] = s }})
	}
	// materials of which the recipe has some, and of which it has none
	for material, high := range []int{981, 571, 1, 901} {
		all = append(all, wrong{api.ErrSum, func(c *call) { c.recycled[material] = span(0, high) }})
	}
	inOrder(t, "Recipe", all, call.fromRecipe)
}

func TestFurnace(t *testing.T) {
	for mode := range 2 {
		got, e := ledger.Furnace(two(), mode)
		fine(t, "hold", got, e, span(150, 150))
	}
	f := two()
	f.Zones[0].Hold, f.Zones[1].Hold = 999900, 100
	got, e := ledger.Furnace(f, 1)
	fine(t, "hold", got, e, span(api.MaxMass, api.MaxMass))
}

func TestFurnaceErrors(t *testing.T) {
	all := []wrong{
		{api.ErrLimit, func(c *call) { c.f.Zones = make([]api.Zone, api.MaxZones+1) }},
		{api.ErrArg, func(c *call) { c.f.Zones = nil }},
		{api.ErrName, func(c *call) { c.f.Zones[0].Name = "" }},
		{api.ErrTwice, func(c *call) { c.f.Modes[1] = "day" }},
		{api.ErrSum, func(c *call) { c.f.Streams[0].Rates[0]++ }},
	}
	for _, mode := range []int{-1, 2, math.MinInt, math.MaxInt} {
		all = append(all, wrong{api.ErrNone, func(c *call) { c.mode = mode }})
	}
	for _, hold := range []int{999951, api.MaxMass} {
		all = append(all, wrong{api.ErrLimit, func(c *call) { c.f.Zones[0].Hold = hold }})
	}
	inOrder(t, "Furnace", all, call.furnace)
}

func TestPacked(t *testing.T) {
	c := good()
	packs := func(want int, posts ...api.Post) {
		t.Helper()
		c.b = book(posts...)
		equal(t, "packed", c.packed(), []any{want, api.OK})
	}
	equal(t, "year", c.packed(), []any{yearEnd, api.OK})
	packs(0)
	packs(2, end(0), end(0))
	packs(4, pack(0, 6, 1, 1), pack(0, 7, 1, 1), pack(0, 8, 1, 1), pack(0, 9, 1, 1))
	// lots that are held, blocked, open, and unknown
	for _, lot := range []int{1, 2, 3, 0, 4, api.MaxLotNo} {
		packs(1, pack(0, 7, 1, 1), pack(0, lot, 1, 1), end(0))
		packs(0, pack(0, lot, 0, 0), comeBack(0, lot), pack(0, 7, 1, 1))
	}
	packs(2, end(0), pack(0, 6, 1, 1), pack(0, 2, 1, 1), pack(0, 1, 1, 1))
	// without holds, what they keep back may leave
	c.holds = nil
	packs(1, pack(0, 1, 1, 1))
	packs(0, pack(0, 2, 1, 1))
}

func TestPackedErrors(t *testing.T) {
	all := append(wrongBooks(),
		wrong{api.ErrArg, func(c *call) { c.c.Every = 0 }},
		wrong{api.ErrName, func(c *call) { c.c.Stands[0].Name = "" }},
		wrong{api.ErrState, func(c *call) { c.l[3].Time = 0 }},
		wrong{api.ErrLimit, func(c *call) { c.holds = make([]api.Hold, api.MaxHolds+1) }},
		wrong{api.ErrArg, func(c *call) { c.s.Cavities = 0 }},
		wrong{api.ErrArg, func(c *call) { c.m.Cycle = 0 }},
		wrong{api.ErrNone, func(c *call) { c.w[0].Section = 2 }},
		wrong{api.ErrNone, func(c *call) { c.holds[1].Mould = 2 }},
	)
	inOrder(t, "Packed", all, call.packed)
}
