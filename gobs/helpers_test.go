package gobs_test

import (
	"cmp"
	"math/rand"
	"reflect"
	"slices"
	"testing"

	"cullet/api"
	"cullet/furnace"
	"cullet/gobs"
)

func span(low, high int) api.Span { return api.Span{Low: low, High: high} }
func just(n int) api.Span         { return span(n, n) }

func cell(phase, tube int, weights ...api.Span) api.Cell {
	return api.Cell{Phase: phase, Tube: tube, Weights: weights}
}

func set(cells ...api.Cell) []api.Cell { return cells }

// singles are so many numbers, one span each, from one on, always a step apart.
func singles(count, from, step int) []api.Span {
	var all []api.Span
	for i := range count {
		all = append(all, just(from+i*step))
	}
	return all
}

// example is the loop of the chapter's examples.
func example() api.Loop {
	return api.Loop{Band: span(995, 1005), Gain: span(3, 4), Tube: span(0, 10), Drift: 1, Error: 2, Every: 1}
}

// melter is the furnace of chapter 2, with two modes beside day: in one of them nothing flows, in the other one more does.
func melter() api.Furnace {
	return api.Furnace{
		Zones: []api.Zone{{Name: "melt", Hold: 100}, {Name: "nose", Hold: 50}},
		Modes: []string{"day", "rest", "full"},
		Streams: []api.Stream{
			{From: -1, To: 0, Rates: []int{10, 0, 33}},
			{From: 0, To: 1, Rates: []int{20, 0, 40}},
			{From: 1, To: 0, Rates: []int{10, 0, 7}},
			{From: 1, To: -1, Rates: []int{10, 0, 33}},
		},
	}
}

// pot is a furnace of one zone.
func pot() api.Furnace {
	return api.Furnace{
		Zones:   []api.Zone{{Name: "pot", Hold: 100}},
		Modes:   []string{"day"},
		Streams: []api.Stream{{From: -1, To: 0, Rates: []int{50}}, {From: 0, To: -1, Rates: []int{50}}},
	}
}

// mix is the batch of chapter 1.
func mix() api.Batch {
	return api.Batch{
		Oxides: []string{"si", "na"},
		Materials: []api.Material{
			{Name: "sand", Price: 1, Most: 200, Step: 20, Content: []api.Span{span(980, 1000), just(0)}},
			{Name: "soda", Price: 4, Most: 100, Step: 20, Content: []api.Span{just(0), span(570, 580)}},
		},
		Shares: []api.Span{span(700, 800), span(200, 300)},
		Redox:  span(-9999, 9999),
		Wanted: 100,
	}
}

func phase(mode, minutes int, charge api.Span, gains ...api.Span) api.Phase {
	return api.Phase{Mode: mode, Minutes: minutes, Charge: charge, Gains: gains}
}

// gob is a gob as the chapter says it comes.
type gob struct{ phase, tube, weight int }

func gobsOf(cells []api.Cell) map[gob]bool {
	all := map[gob]bool{}
	for _, c := range cells {
		for _, s := range c.Weights {
			for w := s.Low; w <= s.High; w++ {
				all[gob{c.Phase, c.Tube, w}] = true
			}
		}
	}
	return all
}

// cellsOf is the one list of cells of a set of gobs.
func cellsOf(all map[gob]bool) []api.Cell {
	var sorted []gob
	for g := range all {
		sorted = append(sorted, g)
	}
	slices.SortFunc(sorted, func(a, b gob) int {
		return cmp.Or(cmp.Compare(a.phase, b.phase), cmp.Compare(a.tube, b.tube), cmp.Compare(a.weight, b.weight))
	})
	var cells []api.Cell
	for i, g := range sorted {
		if i == 0 || sorted[i-1].phase != g.phase || sorted[i-1].tube != g.tube {
			cells = append(cells, cell(g.phase, g.tube))
		}
		c := &cells[len(cells)-1]
		if n := len(c.Weights); n > 0 && c.Weights[n-1].High == g.weight-1 {
			c.Weights[n-1].High++
		} else {
			c.Weights = append(c.Weights, just(g.weight))
		}
	}
	return cells
}

// behind tells each gob that may come next of one that is read so, as the chapter says it.
func behind(l api.Loop, g gob, reading int, tell func(gob)) {
	next := gob{(g.phase + 1) % l.Every, g.tube, g.weight}
	change := just(0)
	switch {
	case g.phase == 0 && reading > l.Band.High && g.tube > l.Tube.Low:
		next.tube--
		change = span(-l.Gain.High, -l.Gain.Low)
	case g.phase == 0 && reading < l.Band.Low && g.tube < l.Tube.High:
		next.tube++
		change = l.Gain
	}
	for c := change.Low; c <= change.High; c++ {
		for drift := -l.Drift; drift <= l.Drift; drift++ {
			next.weight = g.weight + c + drift
			tell(next)
		}
	}
}

// after is the set of all gobs that may come next of something in a set. If there is a reading, they were read so.
func after(l api.Loop, all map[gob]bool, reading ...int) map[gob]bool {
	next := map[gob]bool{}
	for g := range all {
		for r := g.weight - l.Error; r <= g.weight+l.Error; r++ {
			if len(reading) == 0 || reading[0] == r {
				behind(l, g, r, func(n gob) { next[n] = true })
			}
		}
	}
	return next
}

// someLoop is a loop of small numbers that may be.
func someLoop(r *rand.Rand) api.Loop {
	band, gain, tube := 10+r.Intn(20), r.Intn(5), r.Intn(3)
	return api.Loop{
		Band: span(band, band+r.Intn(8)), Gain: span(gain, gain+r.Intn(3)), Tube: span(tube, tube+r.Intn(4)),
		Drift: r.Intn(3), Error: r.Intn(4), Every: 1 + r.Intn(4),
	}
}

// someGobs is a set of gobs of a loop, somewhere about its band.
func someGobs(r *rand.Rand, l api.Loop) map[gob]bool {
	all := map[gob]bool{}
	for range r.Intn(12) {
		all[someGob(r, l)] = true
	}
	return all
}

func someGob(r *rand.Rand, l api.Loop) gob {
	return gob{r.Intn(l.Every), l.Tube.Low + r.Intn(l.Tube.High-l.Tube.Low+1), l.Band.Low - 10 + r.Intn(30)}
}

// call is arguments of all functions of the package.
type call struct {
	l                            api.Loop
	s                            api.Scanner
	set, all                     []api.Cell
	gobs, most, each, cuts, mode int
	readings, recipe             []int
	limits, weights              api.Span
	f                            api.Furnace
	state                        []api.Span
	plan                         []api.Phase
	b                            api.Batch
}

// good are arguments with which nothing is wrong.
func good() call {
	return call{
		l: example(), s: api.Scanner{Acc: 2, Drift: 1, Every: 4},
		set:  set(cell(0, 3, span(990, 993), span(1000, 1001)), cell(0, 5, just(1008))),
		all:  set(cell(0, 3, span(900, 1100)), cell(0, 5, just(1), just(3))),
		gobs: 3, readings: []int{1006, 1004, 1004}, limits: span(900, 1100),
		f: melter(), state: []api.Span{span(-5, 10), just(20)},
		plan: []api.Phase{phase(0, 3, span(900, 1000)), phase(2, 4, just(50), span(-1, 1), just(2))},
		most: 500, each: 3, cuts: 7, mode: 2, weights: span(1000, 1010), b: mix(), recipe: []int{80, 60},
	}
}

// answers are the results of all functions.
func (c call) answers() []any {
	all := []any{gobs.Check(c.l)}
	two := func(x any, e api.Errno) { all = append(all, x, e) }
	three := func(x, y any, e api.Errno) { all = append(all, x, y, e) }
	worst, e := gobs.Worst(c.s)
	two(worst, e)
	next, e := gobs.Next(c.l, c.set)
	two(next, e)
	reach, e := gobs.Reach(c.l, c.set, c.gobs)
	two(reach, e)
	seen, e := gobs.Seen(c.l, c.set, c.readings)
	two(seen, e)
	ever, at, e := gobs.Ever(c.l, c.set, c.limits)
	three(ever, at, e)
	proves, e := gobs.Proves(c.l, c.set, c.limits, c.all)
	two(proves, e)
	hull, ok := gobs.Hull(c.set)
	all = append(all, hull, ok)
	return append(all, c.ofGlass()...)
}

// ofGlass are the results of the functions that are about a furnace or a batch.
func (c call) ofGlass() []any {
	var all []any
	two := func(x any, e api.Errno) { all = append(all, x, e) }
	may, must, e := gobs.Even(c.f, c.state, c.plan, c.most)
	all = append(all, may, must, e)
	drift, e := gobs.Drift(c.f, c.state, c.plan, c.each, c.cuts)
	two(drift, e)
	cuts, e := gobs.Cuts(c.f, c.mode, c.weights)
	two(cuts, e)
	count, e := gobs.Count(c.b, c.recipe, c.weights)
	two(count, e)
	return all
}

// onlyError tells whether each result is a zero value, but for the errors, which are all e.
func onlyError(results []any, e api.Errno) bool {
	for _, x := range results {
		if got, ok := x.(api.Errno); ok && got != e || !ok && !reflect.ValueOf(x).IsZero() {
			return false
		}
	}
	return true
}

func equal(t *testing.T, what string, got, want any) {
	t.Helper()
	if !reflect.DeepEqual(got, want) {
		t.Errorf("%s: got %v, want %v", what, got, want)
	}
}

// same compares sets, of which nil is an empty one.
func same(t *testing.T, what string, got, want []api.Cell) {
	t.Helper()
	if len(got)+len(want) > 0 {
		equal(t, what, got, want)
	}
}

// prefix is the first minutes of a plan.
func prefix(plan []api.Phase, minutes int) []api.Phase {
	var first []api.Phase
	for _, p := range plan {
		p.Minutes = min(p.Minutes, minutes)
		minutes -= p.Minutes
		first = append(first, p)
	}
	return first
}

// history is all states of a plan: the one at its beginning and the one behind each minute.
func history(f api.Furnace, state []api.Span, plan []api.Phase) [][]api.Span {
	minutes := 0
	for _, p := range plan {
		minutes += p.Minutes
	}
	var all [][]api.Span
	for n := range minutes + 1 {
		s, e := furnace.Run(f, state, prefix(plan, n))
		if e != api.OK {
			panic(e)
		}
		all = append(all, s)
	}
	return all
}
