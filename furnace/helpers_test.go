package furnace_test

import (
	"math/rand"
	"reflect"
	"slices"
	"strconv"
	"testing"

	"cullet/api"
	"cullet/furnace"
)

func span(low, high int) api.Span { return api.Span{Low: low, High: high} }
func just(n int) api.Span         { return span(n, n) }

func spans(numbers ...int) []api.Span {
	var all []api.Span
	for _, n := range numbers {
		all = append(all, just(n))
	}
	return all
}

// two is the furnace of the chapter's examples.
func two() api.Furnace {
	return api.Furnace{
		Zones: []api.Zone{{Name: "melt", Hold: 100}, {Name: "nose", Hold: 50}},
		Modes: []string{"day"},
		Streams: []api.Stream{
			{From: -1, To: 0, Rates: []int{10}},
			{From: 0, To: 1, Rates: []int{20}},
			{From: 1, To: 0, Rates: []int{10}},
			{From: 1, To: -1, Rates: []int{10}},
		},
	}
}

// full is a furnace with two modes beside day: in one of them nothing flows, in the other one more does.
func full() api.Furnace {
	f := two()
	f.Modes = []string{"day", "rest", "full-2"}
	f.Streams[0].Rates = []int{10, 0, 50}
	f.Streams[1].Rates = []int{20, 0, 50}
	f.Streams[2].Rates = []int{10, 0, 0}
	f.Streams[3].Rates = []int{10, 0, 50}
	return f
}

// mix is the batch of chapter 1, with something that may bring nothing.
func mix() api.Batch {
	return api.Batch{
		Oxides: []string{"si", "na"},
		Materials: []api.Material{
			{Name: "sand", Price: 1, Most: 200, Step: 20, Content: []api.Span{span(980, 1000), just(0)}},
			{Name: "soda", Price: 4, Most: 100, Step: 20, Content: []api.Span{just(0), span(570, 580)}},
			{Name: "dust", Price: 1, Most: 100, Step: 1, Content: []api.Span{span(0, 700), span(0, 700)}},
		},
		Shares: []api.Span{span(700, 800), span(200, 300)},
		Redox:  span(-9999, 9999),
		Wanted: 100,
	}
}

func phase(mode, minutes int, charge api.Span, gains ...api.Span) api.Phase {
	return api.Phase{Mode: mode, Minutes: minutes, Charge: charge, Gains: gains}
}

// some returns a furnace that may be. What flows in it flows in rings, through outside or not, so that as much comes as goes.
func some(r *rand.Rand) api.Furnace {
	var f api.Furnace
	for i := range 1 + r.Intn(4) {
		f.Zones = append(f.Zones, api.Zone{Name: "z" + strconv.Itoa(i)})
	}
	for i := range 1 + r.Intn(3) {
		f.Modes = append(f.Modes, "m"+strconv.Itoa(i))
	}
	for range r.Intn(6) {
		rates := make([]int, len(f.Modes))
		for i := range rates {
			rates[i] = r.Intn(2) * r.Intn(30)
		}
		ring := someRing(r, len(f.Zones))
		for i, from := range ring {
			f.Streams = append(f.Streams, api.Stream{From: from, To: ring[(i+1)%len(ring)], Rates: slices.Clone(rates)})
		}
	}
	r.Shuffle(len(f.Streams), func(i, j int) { f.Streams[i], f.Streams[j] = f.Streams[j], f.Streams[i] })
	for i := range f.Zones {
		most := 1
		for mode := range f.Modes {
			most = max(most, outflow(f, mode, i))
		}
		f.Zones[i].Hold = most + r.Intn(2)*r.Intn(100)
	}
	if e := furnace.Check(f); e != api.OK {
		panic(e)
	}
	return f
}

// someRing returns at least two different places, mostly outside among them.
func someRing(r *rand.Rand, zones int) []int {
	ring := r.Perm(zones)
	ring = ring[:1+r.Intn(min(3, zones))]
	if len(ring) < 2 || r.Intn(3) > 0 {
		ring = append(ring, -1)
	}
	return ring
}

func outflow(f api.Furnace, mode, place int) int {
	n := 0
	for _, s := range f.Streams {
		if s.From == place {
			n += s.Rates[mode]
		}
	}
	return n
}

func someSpan(r *rand.Rand) api.Span {
	n := r.Intn(2001) - 1000
	return span(n, n+r.Intn(2)*r.Intn(300))
}

func someSpans(r *rand.Rand, count int) []api.Span {
	var all []api.Span
	for range count {
		all = append(all, someSpan(r))
	}
	return all
}

// somePlan returns a plan that may be, with so many minutes in a phase at most.
func somePlan(r *rand.Rand, f api.Furnace, most int) []api.Phase {
	var plan []api.Phase
	for range r.Intn(5) {
		p := phase(r.Intn(len(f.Modes)), r.Intn(most+1), someSpan(r))
		if r.Intn(2) == 0 {
			p.Gains = someSpans(r, len(f.Zones))
		}
		plan = append(plan, p)
	}
	return plan
}

// pulling returns the phases of a plan in whose modes something is pulled.
func pulling(f api.Furnace, plan []api.Phase) []api.Phase {
	return slices.DeleteFunc(slices.Clone(plan), func(p api.Phase) bool {
		n, _ := furnace.Pull(f, p.Mode)
		return n == 0
	})
}

func someTable(r *rand.Rand) []api.WearRow {
	var table []api.WearRow
	from, rate := -1200, 0
	for range r.Intn(5) {
		from += 1 + r.Intn(700)
		rate += r.Intn(50)
		table = append(table, api.WearRow{From: from, Rate: rate})
	}
	return table
}

// call is arguments of all functions of the package.
type call struct {
	f                                 api.Furnace
	mode, minutes, zone, thick, oxide int
	state                             []api.Span
	plan                              []api.Phase
	target, power                     api.Span
	table                             []api.WearRow
	b                                 api.Batch
	old, now                          []int
}

// good are arguments with which nothing is wrong.
func good() call {
	return call{
		f: full(), mode: 2, minutes: 9, zone: 1, thick: 40, oxide: 1,
		state:  []api.Span{span(-5, 10), just(20)},
		plan:   []api.Phase{phase(0, 3, span(900, 1000)), phase(2, 4, just(50), span(-1, 1), just(2))},
		target: span(10, 500), power: span(3, 90),
		table: []api.WearRow{{From: -100, Rate: 3}, {From: 25, Rate: 9}},
		b:     mix(), old: []int{80, 60, 1}, now: []int{90, 40, 0},
	}
}

// ofFurnace are the results of all functions that take a furnace.
func (c call) ofFurnace() []any {
	all := []any{furnace.Check(c.f)}
	two := func(x any, e api.Errno) { all = append(all, x, e) }
	three := func(x, y any, e api.Errno) { all = append(all, x, y, e) }
	pull, e := furnace.Pull(c.f, c.mode)
	two(pull, e)
	out, e := furnace.Out(c.f, c.mode, c.state)
	two(out, e)
	spectrum, e := furnace.Spectrum(c.f, c.mode, c.minutes)
	two(spectrum, e)
	charges, e := furnace.Charges(c.f, c.mode, c.minutes, c.b, c.now)
	two(charges, e)
	may, must, e := furnace.Change(c.f, c.mode, c.minutes, c.b, c.old, c.now, c.oxide, c.target)
	three(may, must, e)
	text, e := furnace.Print(c.f)
	two(text, e)
	return append(all, c.ofPlan()...)
}

// ofPlan are the results of all functions that take a plan.
func (c call) ofPlan() []any {
	var all []any
	two := func(x any, e api.Errno) { all = append(all, x, e) }
	three := func(x, y any, e api.Errno) { all = append(all, x, y, e) }
	last, e := furnace.Run(c.f, c.state, c.plan)
	two(last, e)
	outs, e := furnace.Outs(c.f, c.state, c.plan)
	two(outs, e)
	may, must, e := furnace.First(c.f, c.state, c.plan, c.target)
	three(may, must, e)
	worn, e := furnace.Worn(c.f, c.state, c.plan, c.zone, c.table)
	two(worn, e)
	may, must, e = furnace.Through(c.f, c.state, c.plan, c.zone, c.table, c.thick)
	three(may, must, e)
	return all
}

// answers are the results of all functions but Parse.
func (c call) answers() []any {
	all := c.ofFurnace()
	gain, e := furnace.Gain(c.thick, c.power, c.target)
	all = append(all, gain, e)
	var first, second api.Phase
	if len(c.plan) > 1 {
		first, second = c.plan[0], c.plan[1]
	}
	plan, e := furnace.Reverse(first, second, c.minutes)
	all = append(all, plan, e)
	gases, e := furnace.Gases(c.b, c.now)
	return append(all, gases, e)
}

// onlyError tells whether each result is a zero value, but for the errors, which are all e.
func onlyError(results []any, e api.Errno) bool {
	for _, x := range results {
		if got, ok := x.(api.Errno); ok && got != e || !ok && !reflect.ValueOf(x).IsZero() {
			return false
		}
	}
	return true
}

func equal(t *testing.T, what string, got, want any) {
	t.Helper()
	if !reflect.DeepEqual(got, want) {
		t.Errorf("%s: got %v, want %v", what, got, want)
	}
}

// same compares lists of spans, of which nil is an empty one.
func same(t *testing.T, what string, got, want []api.Span) {
	t.Helper()
	if !slices.Equal(got, want) {
		t.Errorf("%s: got %v, want %v", what, got, want)
	}
}

// floor and ceil round a / b for b above 0.
func floor(a, b int) int { return (a - ((a%b)+b)%b) / b }
func ceil(a, b int) int  { return -floor(-a, b) }

// step returns the next state as the chapter says it.
func step(f api.Furnace, state []api.Span, p api.Phase) []api.Span {
	var next []api.Span
	for i, z := range f.Zones {
		stays := z.Hold - outflow(f, p.Mode, i)
		low, high := state[i].Low*stays, state[i].High*stays
		for _, s := range f.Streams {
			if s.To != i {
				continue
			}
			from := p.Charge
			if s.From >= 0 {
				from = state[s.From]
			}
			low += s.Rates[p.Mode] * from.Low
			high += s.Rates[p.Mode] * from.High
		}
		s := span(floor(low, z.Hold), ceil(high, z.Hold))
		if len(p.Gains) > 0 {
			s = span(s.Low+p.Gains[i].Low, s.High+p.Gains[i].High)
		}
		next = append(next, s)
	}
	return next
}

// history returns the states of a plan as the chapter says it: the one at its beginning, and the one behind each minute; and the mode of each minute.
func history(f api.Furnace, state []api.Span, plan []api.Phase) (states [][]api.Span, modes []int) {
	states = [][]api.Span{state}
	for _, p := range plan {
		for range p.Minutes {
			states = append(states, step(f, states[len(states)-1], p))
			modes = append(modes, p.Mode)
		}
	}
	return states, modes
}

// pulled returns the pulled value of a minute as the chapter says it.
func pulled(f api.Furnace, mode int, state []api.Span) api.Span {
	low, high, pull := 0, 0, 0
	for _, s := range f.Streams {
		if s.To == -1 {
			low += s.Rates[mode] * state[s.From].Low
			high += s.Rates[mode] * state[s.From].High
			pull += s.Rates[mode]
		}
	}
	return span(floor(low, pull), ceil(high, pull))
}
