package plan_test

import (
	"math"
	"math/rand"
	"reflect"
	"slices"
	"strings"
	"testing"

	"cullet/api"
	"cullet/plan"
)

// wild numbers: those that lie about limits, and such as nobody would write.
var wildNumbers = []int{0, 1, -1, 2, 3, 5, 6, 7, 8, 9, 14, 15, 100, 1440, 1441, 10000, 100000, 100001, 1000000, 1000001, 1000000000, 1000000001, math.MaxInt, math.MinInt, math.MaxInt - 1, 1 << 31, -(1 << 31), 1 << 62}

func wildNumber(r *rand.Rand) int { return wildNumbers[r.Intn(len(wildNumbers))] }

// near is a number that mostly may be.
func near(r *rand.Rand, most int) int {
	if r.Intn(8) == 0 {
		return wildNumber(r)
	}
	return r.Intn(most + 1)
}

func wildName(r *rand.Rand) string {
	return []string{"jar", "beer", "a", "b", "", "A", "\xff", "abcdefghijklmnopq"}[r.Intn(8)]
}

func wildArticle(r *rand.Rand) api.Article { return article(wildName(r), near(r, 1), near(r, 9000)) }

func wildOven(r *rand.Rand) api.Oven { return oven(near(r, 9), near(r, 90000)) }

func wildRate(r *rand.Rand) int { return near(r, 90000) }

func wildMaker(r *rand.Rand) api.Maker {
	return maker(near(r, 1), near(r, 99), near(r, 3)-1, wildList(r, wildRate)...)
}

func wildTurn(r *rand.Rand) api.Turn { return turn(near(r, 1440), near(r, 999)) }

func wildTurns(r *rand.Rand) []api.Turn { return wildList(r, wildTurn) }

func wildOrder(r *rand.Rand) api.Order {
	return order(near(r, 2), near(r, 90000), near(r, 2), near(r, 9))
}

func wildArticles(r *rand.Rand) []int {
	all := make([]int, near(r, 3)%9)
	for i := range all {
		all[i] = near(r, 3) - 1
	}
	return all
}

func wildSpan(r *rand.Rand) api.Span { return span(near(r, 500), near(r, 999)) }

func wildSwitch(r *rand.Rand) api.Switch {
	return api.Switch{Section: near(r, 1), Time: near(r, 900), Mode: near(r, 2)}
}

func wildBatch(r *rand.Rand) api.Batch {
	b := sand(near(r, 9))
	b.Wanted = near(r, 200)
	b.Shares[r.Intn(2)] = wildSpan(r)
	return b
}

func wildRecipe(r *rand.Rand) []int { return []int{near(r, 200), near(r, 100)} }

func wildList[T any](r *rand.Rand, of func(*rand.Rand) T) []T {
	var all []T
	for range []int{0, 1, 1, 2, 2, 3, 3, 4, 6, 7, 9, 129}[r.Intn(12)] {
		all = append(all, of(r))
	}
	return all
}

// wildText is a text with a line that is another one, or with a few bytes that are.
func wildText(r *rand.Rand, text string) string {
	lines := strings.Split(text, "\n")
	switch i := r.Intn(len(lines)); r.Intn(4) {
	case 0:
		lines[i] = lines[r.Intn(len(lines))]
	case 1:
		lines = slices.Delete(lines, i, i+1)
	case 2:
		lines[i] = []string{"", " ", "days", "maker\x00", "\xff", "job 5:5 ", "maker 0 0 none "}[r.Intn(7)] + lines[i]
	default:
		b := []byte(text)
		b[r.Intn(len(b))] = byte(r.Intn(256))
		return string(b[:r.Intn(len(b)+1)])
	}
	return strings.Join(lines, "\n")
}

// changes are what spoils a call.
func changes(r *rand.Rand, c *call) []func() {
	return []func(){
		func() { c.s.Days = wildNumber(r) },
		func() { c.s.Articles = wildList(r, wildArticle) },
		func() { c.s.Articles[r.Intn(3)] = wildArticle(r) },
		func() { c.s.Ovens = wildList(r, wildOven) },
		func() { c.s.Ovens[r.Intn(2)] = wildOven(r) },
		func() { c.s.Makers = wildList(r, wildMaker) },
		func() { c.s.Makers[r.Intn(3)] = wildMaker(r) },
		func() { c.s.Makers[r.Intn(3)].Rates[r.Intn(3)] = near(r, 99) },
		func() { c.s.Makers = append(c.s.Makers, maker(near(r, 1), 5, near(r, 3)-1, 10, 10, 10)) },
		func() { c.s.Jobs = wildList(r, wildTurns) },
		func() { c.s.Jobs[r.Intn(3)][r.Intn(3)] = wildTurn(r) },
		func() { c.s.Colours = wildList(r, wildTurns) },
		func() { c.s.Colours[r.Intn(2)][r.Intn(2)] = wildTurn(r) },
		func() { c.s.Orders = wildList(r, wildOrder) },
		func() { c.s.Orders[r.Intn(2)] = wildOrder(r) },
		func() { c.oven = wildNumber(r) },
		func() { c.plan = wildList(r, wildArticles) },
		func() { c.plan[r.Intn(3)] = wildArticles(r) },
		func() { c.plan[r.Intn(3)][r.Intn(3)] = near(r, 3) - 1 },
		func() { c.prices = wildList(r, wildNumber) },
		func() { c.prices[r.Intn(2)] = near(r, 3) },
		func() { c.f.Zones[r.Intn(2)].Hold = wildNumber(r) },
		func() { c.f.Streams = nil },
		func() { c.mode, c.oxide = near(r, 1), near(r, 1) },
		func() { c.minutes = wildNumber(r) },
		func() { c.b = wildBatch(r) },
		func() { c.recipes = wildList(r, wildRecipe) },
		func() { c.recipes[r.Intn(3)] = wildRecipe(r) },
		func() { c.targets = wildList(r, wildSpan) },
		func() { c.targets[r.Intn(3)] = wildSpan(r) },
		func() { c.m.Spread, c.m.Offsets = near(r, 60), []int{near(r, 99), near(r, 99)} },
		func() { c.m.Modes[r.Intn(3)].Reject = wildNumber(r) },
		func() { c.l = wildList(r, wildSwitch) },
		func() { c.l = same(near(r, 130) % 140) },
		func() { c.section, c.stop, c.run = near(r, 1), near(r, 2), near(r, 2) },
		func() { c.t = wildNumber(r) },
		func() { c.glasses = wildList(r, wildBatch) },
		func() { c.glasses[r.Intn(2)] = wildBatch(r) },
		func() { c.text = wildText(r, c.text) },
		func() { c.text = wildText(r, c.text) },
	}
}

// wild spoils one thing or more of good arguments.
func wild(r *rand.Rand) call {
	c := good()
	all := changes(r, &c)
	for _, i := range r.Perm(len(all))[:1+r.Intn(3)] {
		func() {
			defer func() { recover() }() // a change may come behind one that left nothing to change
			all[i]()
		}()
	}
	return c
}

func clonedRows[T any](rows [][]T) [][]T {
	rows = slices.Clone(rows)
	for i := range rows {
		rows[i] = slices.Clone(rows[i])
	}
	return rows
}

func clonedBatch(b api.Batch) api.Batch {
	b.Oxides, b.Materials, b.Shares = slices.Clone(b.Oxides), slices.Clone(b.Materials), slices.Clone(b.Shares)
	return b
}

func cloned(c call) call {
	c.s.Articles, c.s.Ovens, c.s.Makers, c.s.Orders = slices.Clone(c.s.Articles), slices.Clone(c.s.Ovens), slices.Clone(c.s.Makers), slices.Clone(c.s.Orders)
	for i := range c.s.Makers {
		c.s.Makers[i].Rates = slices.Clone(c.s.Makers[i].Rates)
	}
	c.s.Jobs, c.s.Colours = clonedRows(c.s.Jobs), clonedRows(c.s.Colours)
	c.plan, c.prices, c.recipes, c.targets, c.l = clonedRows(c.plan), slices.Clone(c.prices), clonedRows(c.recipes), slices.Clone(c.targets), slices.Clone(c.l)
	c.f.Zones, c.f.Streams, c.m.Modes, c.m.Offsets = slices.Clone(c.f.Zones), slices.Clone(c.f.Streams), slices.Clone(c.m.Modes), slices.Clone(c.m.Offsets)
	c.b, c.glasses = clonedBatch(c.b), slices.Clone(c.glasses)
	for i := range c.glasses {
		c.glasses[i] = clonedBatch(c.glasses[i])
	}
	return c
}

// TestAnything: whatever the arguments are, all functions return, do not change them, and return the same again (P0.1, R4, R10).
func TestAnything(t *testing.T) {
	r := newRand(96)
	for range 1000 {
		c := wild(r)
		before := cloned(c)
		first := c.answers()
		equal(t, "arguments behind", c, before)
		equal(t, "answers", c.answers(), first)
	}
	for _, x := range good().answers() {
		if e, ok := x.(api.Errno); ok {
			equal(t, "error of what is good", e, api.OK)
		}
	}
	for _, x := range (call{}).answers() {
		if e, ok := x.(api.Errno); ok && e != api.ErrArg && e != api.ErrForm {
			t.Error("error of what is nothing", e)
		}
	}
}

// TestZeroWithError: with an error every other result is its zero value, but for the line of Parse (R2).
func TestZeroWithError(t *testing.T) {
	r := newRand(97)
	kinds := map[api.Errno]int{}
	for range 1500 {
		var results []any
		for _, x := range wild(r).answers() {
			results = append(results, x)
			if e, ok := x.(api.Errno); ok {
				kinds[e]++
				if e != api.OK && !onlyError(results, e) {
					t.Fatal(results)
				}
				results = nil
			}
		}
	}
	for _, e := range []api.Errno{api.OK, api.ErrArg, api.ErrLimit, api.ErrForm, api.ErrName, api.ErrTwice, api.ErrNone, api.ErrState, api.ErrScope, api.ErrClash} {
		if kinds[e] == 0 {
			t.Error("no error", e)
		}
	}
}

func none[T any](empty bool) []T {
	if empty {
		return []T{}
	}
	return nil
}

// TestNilAndEmpty: a nil list and an empty one are the same (R3).
func TestNilAndEmpty(t *testing.T) {
	nothing := func(c *call) {
		c.s, c.plan, c.prices, c.glasses = api.Season{Days: 2, Ovens: []api.Oven{oven(0, 9)}, Makers: []api.Maker{maker(0, 5, -1)}}, [][]int{{-1, -1}}, nil, nil
	}
	for what, change := range map[string]func(c *call, empty bool){
		"articles": func(c *call, empty bool) { nothing(c); c.s.Articles = none[api.Article](empty) },
		"rates":    func(c *call, empty bool) { nothing(c); c.s.Makers[0].Rates = none[int](empty) },
		"jobs":     func(c *call, empty bool) { nothing(c); c.s.Jobs = none[[]api.Turn](empty) },
		"colours":  func(c *call, empty bool) { nothing(c); c.s.Colours = none[[]api.Turn](empty) },
		"furnaces": func(c *call, empty bool) { nothing(c); c.s.Ovens, c.s.Makers, c.plan = none[api.Oven](empty), nil, nil },
		"machines": func(c *call, empty bool) { nothing(c); c.s.Makers, c.plan = none[api.Maker](empty), nil },
		"plan":     func(c *call, empty bool) { nothing(c); c.s.Makers, c.plan = nil, none[[]int](empty) },
		"orders":   func(c *call, empty bool) { c.s.Orders, c.prices = none[api.Order](empty), nil },
		"prices":   func(c *call, empty bool) { c.s.Orders, c.prices = nil, none[int](empty) },
		"batches":  func(c *call, empty bool) { nothing(c); c.glasses = none[api.Batch](empty) },
		"recipes":  func(c *call, empty bool) { c.recipes, c.targets = none[[]int](empty), nil },
		"targets":  func(c *call, empty bool) { c.recipes, c.targets = nil, none[api.Span](empty) },
		"log":      func(c *call, empty bool) { c.l = none[api.Switch](empty) },
	} {
		a, b := good(), good()
		change(&a, false)
		change(&b, true)
		equal(t, what, b.answers(), a.answers())
		for _, x := range b.answers() {
			if e, ok := x.(api.Errno); ok && e != api.OK && what != "furnaces" { // without them Shifts finds none
				t.Error(what, e)
			}
		}
	}
}

// TestNewMemory: a result shares no memory with an argument, nor with another result (R4).
func TestNewMemory(t *testing.T) {
	c := good()
	c.l = append(make([]api.Switch, 0, 9), c.l...)
	before := cloned(c)
	results := func() []any {
		s, _, _ := plan.Parse(c.text)
		other, _, _ := plan.Parse(c.text)
		shifts, _ := plan.Shifts(c.s, 0)
		all := []any{s.Articles, s.Ovens, s.Makers[0].Rates, s.Makers[1].Rates, s.Jobs[0], s.Jobs[1], s.Colours[0], s.Colours[1], s.Orders, other.Makers, shifts[0], shifts[1], shifts[6]}
		pulled, _ := plan.Pulls(c.s, c.plan)
		made, _ := plan.Made(c.s, c.plan)
		lacks, _ := plan.Lacks(c.s, c.plan)
		best, _, _, _ := plan.Best(c.s)
		prices, _ := plan.Prices(c.s)
		turns, _ := plan.Turns(c.f, c.mode, c.minutes, c.b, c.recipes, c.oxide, c.targets)
		plan.Over(c.m, c.l, 0, 1, 0, 0)
		return append(all, pulled[0], pulled[1], made[0], made[1], made[2], lacks, best[0], best[1], best[2], prices, turns[0], turns[1], turns[2])
	}
	want := results()
	got := results()
	for i, x := range got {
		v := reflect.ValueOf(x)
		if v.Len() == 0 {
			t.Fatal("an empty list", i)
		}
		v = v.Slice(0, v.Cap())
		for j := range v.Len() {
			v.Index(j).SetZero()
		}
		equal(t, "other results", got[i+1:], want[i+1:])
	}
	equal(t, "arguments", c, before)
	equal(t, "log", c.l[:9][1:], make([]api.Switch, 8))
	equal(t, "results", results(), want)
}
