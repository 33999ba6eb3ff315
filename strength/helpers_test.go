package strength_test

import (
	"math/big"
	"math/rand"
	"reflect"
	"testing"

	"cullet/api"
	"cullet/batch"
	"cullet/strength"
)

func span(low, high int) api.Span { return api.Span{Low: low, High: high} }
func just(n int) api.Span         { return span(n, n) }

func justs(numbers ...int) []api.Span {
	var all []api.Span
	for _, n := range numbers {
		all = append(all, just(n))
	}
	return all
}

// example is the bottle of the chapter's examples.
func example() api.Bottle {
	return bottle(api.Ring{Radius: just(300), Height: just(1000), Share: just(1000), Factor: just(1000), Hit: just(500)})
}

// bottle is one of such rings that holds up to 63245 kilopascals.
func bottle(rings ...api.Ring) api.Bottle {
	return api.Bottle{Rings: rings, Flaw: 10, Tough: 40000000000}
}

// three is a bottle of three rings, known within bounds.
func three() api.Bottle {
	return bottle(
		api.Ring{Radius: span(290, 300), Height: span(500, 510), Share: span(300, 400), Factor: span(1200, 1300), Hit: span(400, 500)},
		api.Ring{Radius: span(295, 305), Height: span(900, 905), Share: span(450, 550), Factor: just(1000), Hit: span(0, 10)},
		api.Ring{Radius: span(100, 150), Height: span(600, 620), Share: span(100, 150), Factor: span(900, 1100), Hit: just(0)},
	)
}

// curve is the lehr of the chapter's examples.
func curve() api.Lehr { return lehr(100, 0, 5600, 30, 5600, 130, 4600, 150, 600) }

// lehr is one with a factor, and so many minutes and temperatures.
func lehr(factor int, numbers ...int) api.Lehr {
	l := api.Lehr{Factor: factor}
	for i := 0; i < len(numbers); i += 2 {
		l.Knees = append(l.Knees, api.Knee{Minute: numbers[i], Temp: numbers[i+1]})
	}
	return l
}

// mix is a batch with properties whose values are these spans, for the recipe that is mixed.
func mix(values ...api.Span) api.Batch {
	b := api.Batch{
		Oxides:    []string{"si", "na"},
		Materials: []api.Material{{Name: "sand", Most: api.MaxKilos, Step: 1, Content: []api.Span{span(0, 1000), span(0, 1000)}}, {Name: "seed", Most: 1, Step: 1, Content: justs(0, 1)}},
		Shares:    []api.Span{span(0, 1000), span(0, 1000)},
		Redox:     span(-1, 1),
		Wanted:    1,
	}
	for i, v := range values {
		b.Properties = append(b.Properties, api.Property{Name: string(rune('a' + i)), Coefs: []int{v.Low, v.High}, Target: v})
	}
	return b
}

func mixed() []int { return []int{api.MaxKilos, 1} }

// holder is a loop that holds the weights from 995 to 1005, more or less; feed is a gob with which it begins.
func holder() api.Loop {
	return api.Loop{Band: span(995, 1005), Gain: span(3, 4), Tube: span(0, 10), Drift: 1, Error: 2, Every: 1}
}

func feed(weight int) []api.Cell {
	return []api.Cell{{Tube: 5, Weights: []api.Span{just(weight)}}}
}

// rat is a product of numbers, divided by another product of numbers, exactly.
func rat(over []int, under []int) *big.Rat {
	q := big.NewRat(1, 1)
	for _, n := range over {
		q.Mul(q, big.NewRat(int64(n), 1))
	}
	for _, n := range under {
		q.Quo(q, big.NewRat(int64(n), 1))
	}
	return q
}

func floor(q *big.Rat) int { return int(new(big.Int).Div(q.Num(), q.Denom()).Int64()) }
func ceil(q *big.Rat) int  { return -floor(new(big.Rat).Neg(q)) }

// thicknessOf is the thickness of a ring as the chapter says it.
func thicknessOf(r api.Ring, weights api.Span) api.Span {
	return span(
		floor(rat([]int{200, weights.Low, r.Share.Low, 113}, []int{355, r.Radius.High, r.Height.High})),
		ceil(rat([]int{200, weights.High, r.Share.High, 106}, []int{333, r.Radius.Low, r.Height.Low})),
	)
}

// stressOf is the stress of a ring as the chapter says it.
func stressOf(r api.Ring, thick api.Span, l api.Load) api.Span {
	low := floor(rat([]int{l.Press, r.Radius.Low, r.Factor.Low}, []int{100, thick.High}))
	low += floor(rat([]int{500000, l.Force, 113}, []int{355, r.Radius.High, thick.High}))
	low += floor(rat([]int{r.Hit.Low, l.Speed}, []int{thick.High}))
	high := ceil(rat([]int{l.Press, r.Radius.High, r.Factor.High}, []int{100, thick.Low}))
	high += ceil(rat([]int{500000, l.Force, 106}, []int{333, r.Radius.Low, thick.Low}))
	high += ceil(rat([]int{r.Hit.High, l.Speed}, []int{thick.Low}))
	return span(low+l.Other, high+l.Other)
}

// bearable tells whether the glass of a bottle bears a stress.
func bearable(b api.Bottle, stress int) bool {
	s := big.NewInt(int64(stress))
	s.Mul(s, s).Mul(s, big.NewInt(int64(b.Flaw)))
	return s.Cmp(big.NewInt(int64(b.Tough))) <= 0
}

// ringHolds tells whether a ring surely holds as the chapter says it.
func ringHolds(b api.Bottle, i int, thick api.Span, l api.Load) bool {
	return bearable(b, stressOf(b.Rings[i], thick, l).High)
}

// verdictOf tells whether a bottle surely holds, and whether it surely breaks, as the chapter says it.
func verdictOf(b api.Bottle, thick []api.Span, l api.Load) (holds, breaks bool) {
	holds = true
	for i, r := range b.Rings {
		holds = holds && ringHolds(b, i, thick[i], l)
		breaks = breaks || !bearable(b, stressOf(r, thick[i], l).Low)
	}
	return holds, breaks
}

func newRand(seed int64) *rand.Rand { return rand.New(rand.NewSource(seed)) }

// about is a span from a number on that is not below the least one.
func about(r *rand.Rand, least, most, width int) api.Span {
	n := least + r.Intn(most-least+1)
	return span(n, min(most, n+r.Intn(2)*r.Intn(width+1)))
}

// someBottle is a bottle of few rings that may be.
func someBottle(r *rand.Rand) api.Bottle {
	b := api.Bottle{Flaw: 1 + r.Intn(50)}
	n := 1 + r.Intn(4)
	for range n {
		share := r.Intn(1000/n + 1)
		b.Rings = append(b.Rings, api.Ring{
			Radius: about(r, 50, 600, 50), Height: about(r, 100, 3000, 200), Share: span(share, min(1000, 1000/n+1+r.Intn(50))),
			Factor: about(r, 0, 4000, 500), Hit: about(r, 0, 2000, 200),
		})
	}
	bears := 1 + r.Intn(100000)
	b.Tough = b.Flaw*bears*bears + r.Intn(3) - 1
	if e := strength.Check(b); e != api.OK {
		panic(e)
	}
	return b
}

func someLoad(r *rand.Rand) api.Load {
	return api.Load{Press: r.Intn(2000) * r.Intn(2), Force: r.Intn(3000) * r.Intn(2), Speed: r.Intn(500) * r.Intn(2), Other: r.Intn(9000) * r.Intn(2)}
}

// someThick are thicknesses of the rings of a bottle.
func someThick(r *rand.Rand, b api.Bottle) []api.Span {
	var all []api.Span
	for range b.Rings {
		all = append(all, about(r, 1, 50+r.Intn(api.MaxThick-49), 100))
	}
	return all
}

// someLehr is a lehr that may be, with temperatures up to most.
func someLehr(r *rand.Rand, most int) api.Lehr {
	l := api.Lehr{Factor: r.Intn(300), Knees: []api.Knee{{Minute: 0, Temp: r.Intn(most + 1)}}}
	for i := range 1 + r.Intn(6) {
		k := api.Knee{Minute: l.Knees[i].Minute + 1 + r.Intn(40), Temp: r.Intn(most + 1)}
		if r.Intn(4) == 0 {
			k.Temp = l.Knees[i].Temp
		}
		l.Knees = append(l.Knees, k)
	}
	return l
}

// call is arguments of all functions of the package.
type call struct {
	b                             api.Bottle
	weights                       api.Span
	thick                         []api.Span
	l                             api.Load
	measured                      []int
	acc                           int
	loop                          api.Loop
	set                           []api.Cell
	most                          int
	batch                         api.Batch
	recipe                        []int
	property, degrees             int
	lehr                          api.Lehr
	temps                         api.Span
	temp, wide                    int
	below, soak, annealing, limit int
}

// good are arguments with which nothing is wrong.
func good() call {
	return call{
		b: three(), weights: span(900, 1000), thick: []api.Span{span(100, 200), span(1, api.MaxThick), just(7)},
		l: api.Load{Press: 500, Force: 100, Speed: 50, Other: 3}, measured: []int{300, 200, 4000}, acc: 5,
		loop: holder(), set: feed(1000), most: 1010,
		batch: mix(span(850, 900), span(5400, 5500)), recipe: mixed(), degrees: 40,
		lehr: curve(), temps: span(4900, 5500), temp: 5400, wide: 300, below: 500, soak: 50, annealing: 1, limit: 90,
	}
}

// answers are the results of all functions.
func (c call) answers() []any {
	all := []any{strength.Check(c.b)}
	two := func(x any, e api.Errno) { all = append(all, x, e) }
	thickness, e := strength.Thickness(c.b, c.weights)
	two(thickness, e)
	stress, e := strength.Stress(c.b, c.thick, c.l)
	two(stress, e)
	holds, breaks, e := strength.Holds(c.b, c.thick, c.l)
	all = append(all, holds, breaks, e)
	burst, e := strength.Burst(c.b, c.thick, c.l)
	two(burst, e)
	needed, e := strength.Needed(c.b, c.l)
	two(needed, e)
	passes, e := strength.Passes(c.b, c.l, c.measured, c.acc)
	two(passes, e)
	lightest, e := strength.Lightest(c.b, c.l)
	two(lightest, e)
	kept, e := strength.Kept(c.b, c.l, c.loop, c.set, c.most)
	two(kept, e)
	shock, e := strength.Shock(c.batch, c.recipe, c.property, c.degrees)
	two(shock, e)
	return append(all, c.ofLehr()...)
}

// ofLehr are the results of the functions that are about a lehr.
func (c call) ofLehr() []any {
	all := []any{strength.CheckLehr(c.lehr)}
	two := func(x any, e api.Errno) { all = append(all, x, e) }
	rate, e := strength.Steepest(c.lehr, c.temps)
	two(rate, e)
	held, e := strength.Held(c.lehr, c.temp)
	two(held, e)
	strain, e := strength.Strain(c.lehr, c.temps, c.wide)
	two(strain, e)
	anneals, e := c.anneals()
	two(anneals, e)
	return all
}

func (c call) anneals() (bool, api.Errno) {
	return strength.Anneals(c.lehr, c.batch, c.recipe, c.annealing, c.below, c.soak, c.wide, c.limit)
}

// wrong spoils arguments, with the error that this makes.
type wrong struct {
	e     api.Errno
	spoil func(*call)
}

// inOrder checks that of two errors the one comes that stands first in a list.
func inOrder(t *testing.T, what string, list []wrong, of func(call) []any) {
	t.Helper()
	for i, first := range list {
		for j, second := range list[i:] {
			c := good()
			second.spoil(&c)
			first.spoil(&c)
			if got := of(c); !onlyError(got, first.e) {
				t.Errorf("%s: %d and %d: got %v, want %v", what, i, i+j, got, first.e)
			}
		}
	}
}

// onlyError tells whether each result is a zero value, but for the errors, which are all e.
func onlyError(results []any, e api.Errno) bool {
	for _, x := range results {
		if got, ok := x.(api.Errno); ok && got != e || !ok && !reflect.ValueOf(x).IsZero() {
			return false
		}
	}
	return true
}

func equal(t *testing.T, what string, got, want any) {
	t.Helper()
	if !reflect.DeepEqual(got, want) {
		t.Errorf("%s: got %v, want %v", what, got, want)
	}
}

// fine checks a result that comes without an error.
func fine(t *testing.T, what string, got any, e api.Errno, want any) {
	t.Helper()
	equal(t, what+": error", e, api.OK)
	equal(t, what, got, want)
}

// TestMix: the tests' batch has the values that it is said to have.
func TestMix(t *testing.T) {
	for _, v := range []api.Span{span(850, 900), just(0), span(-10000, 10000), span(5400, 5401), span(-3, 2)} {
		got, e := batch.Value(mix(just(1), v), mixed(), 1)
		fine(t, "value", got, e, v)
	}
}
