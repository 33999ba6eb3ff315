package plan_test

import (
	"math/rand"
	"reflect"
	"slices"
	"testing"

	"cullet/api"
	"cullet/plan"
)

func turn(minutes, cost int) api.Turn { return api.Turn{Minutes: minutes, Cost: cost} }

func article(name string, colour, weight int) api.Article {
	return api.Article{Name: name, Colour: colour, Weight: weight}
}

func oven(least, most int) api.Oven { return api.Oven{Least: least, Most: most} }

func maker(oven, idle, start int, rates ...int) api.Maker {
	return api.Maker{Oven: oven, Rates: rates, Idle: idle, Start: start}
}

func order(article, quantity, due, penalty int) api.Order {
	return api.Order{Article: article, Quantity: quantity, Due: due, Penalty: penalty}
}

func span(low, high int) api.Span { return api.Span{Low: low, High: high} }

// never are no changes that cost anything.
func never(count int) [][]api.Turn {
	all := make([][]api.Turn, count)
	for i := range all {
		all[i] = make([]api.Turn, count)
	}
	return all
}

// The articles of pub.
const (
	pint = iota
	quart
)

// pub is the season of the chapter's examples.
func pub() api.Season {
	return api.Season{
		Days:     2,
		Articles: []api.Article{article("pint", 0, 3000), article("quart", 0, 6000)},
		Ovens:    []api.Oven{oven(10000, 60000)},
		Makers:   []api.Maker{maker(0, 500, pint, 100000, 60000)},
		Jobs:     [][]api.Turn{{turn(0, 0), turn(144, 100)}, {turn(144, 100), turn(0, 0)}},
		Colours:  never(1),
		Orders:   []api.Order{order(pint, 100000, 1, 1), order(quart, 50000, 1, 1)},
	}
}

// The articles of town.
const (
	jar = iota
	beer
	wine
)

// town has a furnace with the machines 0 and 2, and one with the machine 1; jars are white, the others brown. What follows from a job or a colour to itself is paid by nobody.
func town() api.Season {
	return api.Season{
		Days:     3,
		Articles: []api.Article{article("jar", 0, 3000), article("beer", 1, 2500), article("wine-7", 1, 6000)},
		Ovens:    []api.Oven{oven(10000, 50000), oven(0, 40000)},
		Makers: []api.Maker{
			maker(0, 300, jar, 100000, 80000, 0), maker(1, 100, wine, 0, 70000, 50000), maker(0, 200, -1, 50000, 60000, 30000),
		},
		Jobs: [][]api.Turn{
			{turn(1440, 9999), turn(120, 40), turn(200, 60)},
			{turn(100, 30), turn(1440, 9999), turn(90, 20)},
			{turn(110, 50), turn(80, 25), turn(1440, 9999)},
		},
		Colours: [][]api.Turn{{turn(1440, 9999), turn(700, 1000)}, {turn(800, 2000), turn(1440, 9999)}},
		Orders:  []api.Order{order(wine, 90000, 2, 3), order(jar, 150000, 1, 2)},
	}
}

// townPlan keeps town: jars are made until the second furnace's beer, and the first one goes over to brown.
func townPlan() [][]int { return [][]int{{jar, jar, -1}, {wine, -1, beer}, {-1, jar, wine}} }

// arms runs or stops: an arm is at home from the tick 80 to the next cycle, so that it may stop, and go on, only then.
func arms() api.Machine {
	return api.Machine{
		Cycle: 100, Offsets: []int{0, 50}, Spread: 20,
		Mechs: []api.Mech{{Name: "arm", Most: 10}},
		Modes: []api.Mode{
			{Name: "run", Motions: [][]api.Knot{{{At: 0}, {At: 20, Place: 100}, {At: 60, Place: 100}, {At: 80}}}, Gob: 5, Reject: 2},
			{Name: "stop", Motions: [][]api.Knot{nil}, Gob: -1, Reject: 7},
			{Name: "out", Motions: [][]api.Knot{{{At: 0, Place: 100}}}, Gob: -1},
		},
	}
}

// two is the furnace of chapter 2, with a mode in which nothing is pulled.
func two() api.Furnace {
	return api.Furnace{
		Zones: []api.Zone{{Name: "melt", Hold: 100}, {Name: "nose", Hold: 50}},
		Modes: []string{"day", "rest"},
		Streams: []api.Stream{
			{From: -1, To: 0, Rates: []int{10, 0}}, {From: 0, To: 1, Rates: []int{20, 0}},
			{From: 1, To: 0, Rates: []int{10, 0}}, {From: 1, To: -1, Rates: []int{10, 0}},
		},
	}
}

// sand is the batch of chapter 1; sand at this price costs 160 and 80 for soda.
func sand(price int) api.Batch {
	return api.Batch{
		Oxides: []string{"si", "na"},
		Materials: []api.Material{
			{Name: "sand", Price: price, Most: 200, Step: 20, Content: []api.Span{span(980, 1000), span(0, 0)}},
			{Name: "soda", Price: 4, Most: 100, Step: 20, Content: []api.Span{span(0, 0), span(570, 580)}},
		},
		Shares: []api.Span{span(700, 800), span(200, 300)},
		Redox:  span(-9999, 9999),
		Wanted: 100,
	}
}

// call is arguments of all functions of the package.
type call struct {
	s             api.Season
	oven          int
	plan          [][]int
	prices        []int
	f             api.Furnace
	mode, minutes int
	b             api.Batch
	recipes       [][]int
	oxide         int
	targets       []api.Span
	m             api.Machine
	l             []api.Switch
	section       int
	stop, run, t  int
	glasses       []api.Batch
	text          string
}

// good are arguments with which nothing is wrong.
func good() call {
	text, e := plan.Print(town())
	if e != api.OK {
		panic("what is good is not")
	}
	return call{
		s: town(), plan: townPlan(), prices: []int{1, 2},
		f: two(), minutes: 60, b: sand(1), recipes: [][]int{{80, 40}, {100, 60}, {100, 40}}, targets: []api.Span{span(0, 770), span(700, 760), span(780, 1000)},
		m: arms(), l: []api.Switch{{Section: 1, Time: 30, Mode: 1}}, stop: 1, t: 40,
		glasses: []api.Batch{sand(1), sand(2)}, text: text,
	}
}

func (c call) best() []any {
	p, cost, found, e := plan.Best(c.s)
	return []any{p, cost, found, e}
}

func (c call) bound() []any {
	bound, none, e := plan.Bound(c.s, c.prices)
	return []any{bound, none, e}
}

func (c call) turns() []any {
	turns, e := plan.Turns(c.f, c.mode, c.minutes, c.b, c.recipes, c.oxide, c.targets)
	return []any{turns, e}
}

func (c call) over() []any {
	ticks, found, e := plan.Over(c.m, c.l, c.section, c.stop, c.run, c.t)
	return []any{ticks, found, e}
}

func (c call) melt() []any {
	cost, e := plan.Melt(c.s, c.plan, c.glasses)
	return []any{cost, e}
}

// counted are the results of the functions that want a plan that keeps the season, but for Melt.
func (c call) counted() []any {
	pulls, e1 := plan.Pulls(c.s, c.plan)
	made, e2 := plan.Made(c.s, c.plan)
	lacks, e3 := plan.Lacks(c.s, c.plan)
	cost, e4 := plan.Cost(c.s, c.plan)
	return []any{pulls, e1, made, e2, lacks, e3, cost, e4}
}

// checked are the results of the functions that have no error but Check's, apart from Best.
func (c call) checked() []any {
	prices, e1 := plan.Prices(c.s)
	text, e2 := plan.Print(c.s)
	return []any{plan.Check(c.s), prices, e1, text, e2}
}

func (c call) shifts() []any {
	shifts, e := plan.Shifts(c.s, c.oven)
	return []any{shifts, e}
}

func (c call) keeps() []any {
	keeps, e := plan.Keeps(c.s, c.plan)
	return []any{keeps, e}
}

// answers are the results of all functions, but for the line of Parse; each error stands behind the others of its function.
func (c call) answers() []any {
	s, _, e := plan.Parse(c.text)
	return slices.Concat([]any{s, e}, c.checked(), c.shifts(), c.keeps(), c.counted(), c.best(), c.bound(), c.turns(), c.over(), c.melt())
}

// wrong spoils arguments, with the error that this makes.
type wrong struct {
	e     api.Errno
	spoil func(*call)
}

// inOrder checks that of two errors the one comes that stands first in a list.
func inOrder(t *testing.T, what string, list []wrong, of func(call) []any) {
	t.Helper()
	for i, first := range list {
		for j, second := range list[i:] {
			c := good()
			second.spoil(&c)
			first.spoil(&c)
			if got := of(c); !onlyError(got, first.e) {
				t.Errorf("%s: %d and %d: got %v, want %v", what, i, i+j, got, first.e)
			}
		}
	}
}

// onlyError tells whether each result is a zero value, but for the errors, which are all e.
func onlyError(results []any, e api.Errno) bool {
	for _, x := range results {
		if got, ok := x.(api.Errno); ok && got != e || !ok && !reflect.ValueOf(x).IsZero() {
			return false
		}
	}
	return true
}

func equal(t *testing.T, what string, got, want any) {
	t.Helper()
	if !reflect.DeepEqual(got, want) {
		t.Errorf("%s: got %v, want %v", what, got, want)
	}
}

// fine checks a result that comes without an error.
func fine(t *testing.T, what string, got any, e api.Errno, want any) {
	t.Helper()
	equal(t, what+": error", e, api.OK)
	equal(t, what, got, want)
}

// rows checks lists that come without an error, of which nil is an empty one.
func rows(t *testing.T, what string, got [][]int, e api.Errno, want [][]int) {
	t.Helper()
	if e != api.OK || !sameRows(got, want) {
		t.Errorf("%s: got %v, error %v, want %v", what, got, e, want)
	}
}

func sameRows(a, b [][]int) bool { return slices.EqualFunc(a, b, slices.Equal[[]int]) }

func newRand(seed int64) *rand.Rand { return rand.New(rand.NewSource(seed)) }

// table are lists of numbers from one on, below another one.
func table(r *rand.Rand, rows, columns, from, below int) [][]int {
	all := make([][]int, rows)
	for i := range all {
		all[i] = make([]int, columns)
		for j := range all[i] {
			all[i][j] = from + r.Intn(below-from)
		}
	}
	return all
}

// someTurns are changes of which one of an hour or two is mostly lost, and sometimes more than a day.
func someTurns(r *rand.Rand, count int) [][]api.Turn {
	all := never(count)
	for i := range all {
		for j := range all[i] {
			all[i][j] = turn([]int{0, 60, r.Intn(200), r.Intn(1441), 1440}[r.Intn(5)], r.Intn(3)*r.Intn(40))
		}
	}
	return all
}

// someSeason is a season of at most so many days. Few bottles are made, so that it matters that they are whole ones.
func someSeason(r *rand.Rand, days int) api.Season {
	for {
		s := api.Season{Days: 1 + r.Intn(days), Colours: someTurns(r, 1+r.Intn(3))}
		for i := range r.Intn(4) {
			s.Articles = append(s.Articles, article(string(rune('a'+i)), r.Intn(len(s.Colours)), 1+r.Intn(9000)))
		}
		count := len(s.Articles)
		s.Jobs = someTurns(r, count)
		for range r.Intn(3) {
			s.Ovens = append(s.Ovens, oven(r.Intn(2)*r.Intn(8), 3+r.Intn(20)))
		}
		for range r.Intn(4) {
			if len(s.Ovens) > 0 {
				rates := table(r, 1, count, -3, 20)[0]
				for i := range rates {
					rates[i] = max(0, rates[i])
				}
				s.Makers = append(s.Makers, maker(r.Intn(len(s.Ovens)), r.Intn(20), r.Intn(count+1)-1, rates...))
			}
		}
		for _, article := range r.Perm(count) {
			if r.Intn(3) > 0 {
				s.Orders = append(s.Orders, order(article, r.Intn(50), r.Intn(s.Days), r.Intn(12)))
			}
		}
		if plan.Check(s) == api.OK {
			return s
		}
	}
}

// at are the machines of a furnace.
func at(s api.Season, oven int) []int {
	var all []int
	for i, x := range s.Makers {
		if x.Oven == oven {
			all = append(all, i)
		}
	}
	return all
}

// pulls are the kilograms that a furnace's machines pull with such articles, as the chapter says it.
func pulls(s api.Season, machines, shift []int) int {
	sum := 0
	for i, article := range shift {
		if article >= 0 {
			sum += s.Makers[machines[i]].Rates[article] * s.Articles[article].Weight
		}
	}
	return sum / 10000
}

// mayBe tells whether a shift may be, as the chapter says it.
func mayBe(s api.Season, oven int, shift []int) bool {
	machines, colours := at(s, oven), map[int]bool{}
	for i, article := range shift {
		if article >= 0 {
			colours[s.Articles[article].Colour] = true
			if s.Makers[machines[i]].Rates[article] == 0 {
				return false
			}
		}
	}
	pull := pulls(s, machines, shift)
	return len(colours) <= 1 && s.Ovens[oven].Least <= pull && pull <= s.Ovens[oven].Most
}

// lists are all lists of so many numbers from -1 on, below another one, in order.
func lists(length, below int) [][]int {
	if length == 0 {
		return [][]int{{}}
	}
	var all [][]int
	for first := -1; first < below; first++ {
		for _, rest := range lists(length-1, below) {
			all = append(all, append([]int{first}, rest...))
		}
	}
	return all
}

// shiftsOf are the shifts of a furnace that may be, as the chapter says it.
func shiftsOf(s api.Season, oven int) [][]int {
	return slices.DeleteFunc(lists(len(at(s, oven)), len(s.Articles)), func(shift []int) bool { return !mayBe(s, oven, shift) })
}

// column is what some machines have on a day of a plan, or at the start.
func column(s api.Season, p [][]int, machines []int, day int) []int {
	var all []int
	for _, i := range machines {
		if day < 0 {
			all = append(all, s.Makers[i].Start)
		} else {
			all = append(all, p[i][day])
		}
	}
	return all
}

// kept tells whether a plan keeps a season, as the chapter says it.
func kept(s api.Season, p [][]int) bool {
	for oven := range s.Ovens {
		for day := range s.Days {
			if !mayBe(s, oven, column(s, p, at(s, oven), day)) {
				return false
			}
		}
	}
	return true
}

// firstColour is the colour of the first article of a list, or -1.
func firstColour(s api.Season, list []int) int {
	for _, article := range list {
		if article >= 0 {
			return s.Articles[article].Colour
		}
	}
	return -1
}

// followed is what machines of a furnace make on a day, and what it costs, as the chapter says it.
func followed(s api.Season, machines, before, now []int) (made []int, cost int) {
	was, is := firstColour(s, before), firstColour(s, now)
	recoloured := was >= 0 && is >= 0 && was != is
	if recoloured {
		cost += s.Colours[was][is].Cost
	}
	for i, article := range now {
		x := s.Makers[machines[i]]
		if article < 0 {
			cost += x.Idle
			made = append(made, 0)
			continue
		}
		lost := 0
		if recoloured {
			lost += s.Colours[was][is].Minutes
		}
		if before[i] >= 0 && before[i] != article {
			lost += s.Jobs[before[i]][article].Minutes
			cost += s.Jobs[before[i]][article].Cost
		}
		made = append(made, x.Rates[article]*max(1440-lost, 0)/1440)
	}
	return made, cost
}

// reckoned is what comes of a plan that keeps a season, as the chapter says it.
func reckoned(s api.Season, p [][]int) (pulled, made [][]int, lacks []int, cost int) {
	pulled, made = make([][]int, len(s.Ovens)), make([][]int, len(s.Makers))
	for oven := range s.Ovens {
		machines := at(s, oven)
		for day := range s.Days {
			before, now := column(s, p, machines, day-1), column(s, p, machines, day)
			pulled[oven] = append(pulled[oven], pulls(s, machines, now))
			bottles, n := followed(s, machines, before, now)
			cost += n
			for i, m := range machines {
				made[m] = append(made[m], bottles[i])
			}
		}
	}
	for _, x := range s.Orders {
		left := x.Quantity
		for m, days := range p {
			for day, article := range days {
				if article == x.Article && day <= x.Due {
					left -= made[m][day]
				}
			}
		}
		lacks = append(lacks, max(0, left))
		cost += max(0, left) * x.Penalty
	}
	return pulled, made, lacks, cost
}

// product are all lists that have one of each of some lists.
func product[T any](from [][]T) [][]T {
	all := [][]T{nil}
	for _, list := range from {
		var longer [][]T
		for _, head := range all {
			for _, x := range list {
				longer = append(longer, append(slices.Clone(head), x))
			}
		}
		all = longer
	}
	return all
}

// ways are all ways to give a furnace a shift that may be on each day.
func ways(s api.Season, oven int) [][][]int {
	days := make([][][]int, s.Days)
	for day := range days {
		days[day] = shiftsOf(s, oven)
	}
	return product(days)
}

// plansOf are all plans that keep a season.
func plansOf(s api.Season) [][][]int {
	all := make([][][][]int, len(s.Ovens))
	for oven := range all {
		all[oven] = ways(s, oven)
	}
	var plans [][][]int
	for _, way := range product(all) {
		p := make([][]int, len(s.Makers))
		for oven, days := range way {
			for _, shift := range days {
				for i, m := range at(s, oven) {
					p[m] = append(p[m], shift[i])
				}
			}
		}
		plans = append(plans, p)
	}
	return plans
}

// isSmall tells whether a season has few enough plans to try them all.
func isSmall(s api.Season, most int) bool {
	n := 1
	for range s.Days {
		for oven := range s.Ovens {
			if n *= len(shiftsOf(s, oven)); n > most {
				return false
			}
		}
	}
	return true
}
