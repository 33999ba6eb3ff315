package furnace_test

import (
	"math"
	"math/rand"
	"reflect"
	"slices"
	"strings"
	"testing"

	"cullet/api"
	"cullet/furnace"
)

// wild numbers, names and lengths: those that lie about limits, and such as nobody would write.
var wildNumbers = []int{0, 1, -1, 2, 5, 10, 20, 50, 100, 999, 2000, 2001, 1000000, 1000001, 1000000000, -1000000000, 1000000001, math.MaxInt, math.MinInt, math.MaxInt - 1, 1 << 31, -(1 << 31), 1 << 62}

var wildNames = []string{"", "a", "b", "melt", "day", "c9", "-", "A", "a b", "\n", "\x00", "\xff\xfe", "a\xc3", strings.Repeat("a", 16), strings.Repeat("a", 17)}

func wildNumber(r *rand.Rand) int    { return wildNumbers[r.Intn(len(wildNumbers))] }
func wildName(r *rand.Rand) string   { return wildNames[r.Intn(len(wildNames))] }
func wildSpan(r *rand.Rand) api.Span { return span(wildNumber(r), wildNumber(r)) }

func wildPhase(r *rand.Rand) api.Phase {
	return phase(r.Intn(5)-1, wildNumber(r), wildSpan(r), wildList(r, wildSpan)...)
}

func wildStream(r *rand.Rand) api.Stream {
	return api.Stream{From: r.Intn(5) - 2, To: wildNumber(r), Rates: wildList(r, wildNumber)}
}

func wildRow(r *rand.Rand) api.WearRow {
	return api.WearRow{From: wildNumber(r), Rate: wildNumber(r)}
}

func wildList[T any](r *rand.Rand, of func(*rand.Rand) T) []T {
	var all []T
	for range []int{0, 1, 1, 2, 2, 3, 9, 25, 201}[r.Intn(9)] {
		all = append(all, of(r))
	}
	return all
}

// wild spoils one thing or more of good arguments.
func wild(r *rand.Rand) call {
	c := good()
	f := &c.f
	changes := []func(){
		func() { f.Zones[r.Intn(2)].Name = wildName(r) },
		func() { f.Zones[r.Intn(2)].Hold = wildNumber(r) },
		func() { f.Modes[r.Intn(3)] = wildName(r) },
		func() { f.Streams = wildList(r, wildStream) },
		func() { f.Streams[0].From = wildNumber(r) },
		func() { f.Streams[1].To = wildNumber(r) },
		func() { f.Streams[2].Rates[1] = wildNumber(r) },
		func() { f.Streams[2].Rates = wildList(r, wildNumber) },
		func() { c.mode, c.minutes = wildNumber(r), wildNumber(r) },
		func() { c.mode = r.Intn(3) },
		func() { c.minutes = wildNumber(r) },
		func() { c.zone, c.thick, c.oxide = wildNumber(r), wildNumber(r), wildNumber(r) },
		func() { c.thick = wildNumber(r) },
		func() { c.state = wildList(r, wildSpan) },
		func() { c.state[r.Intn(2)] = wildSpan(r) },
		func() { c.plan = wildList(r, wildPhase) },
		func() { c.plan[r.Intn(2)] = wildPhase(r) },
		func() { c.plan[0].Gains = wildList(r, wildSpan) },
		func() { c.plan[1].Gains[r.Intn(2)] = wildSpan(r) },
		func() { c.plan[1].Minutes = wildNumber(r) },
		func() { c.target, c.power = wildSpan(r), wildSpan(r) },
		func() { c.table = wildList(r, wildRow) },
		func() { c.table[r.Intn(2)] = wildRow(r) },
		func() { c.b.Oxides, c.b.Shares = wildList(r, wildName), wildList(r, wildSpan) },
		func() { c.b.Materials[0].Content[0] = wildSpan(r) },
		func() { c.old, c.now = wildList(r, wildNumber), wildList(r, wildNumber) },
		func() { c.now[0] = wildNumber(r) },
	}
	for _, i := range r.Perm(len(changes))[:1+r.Intn(2)] {
		func() {
			defer func() { recover() }() // a change may come behind one that left nothing to change
			changes[i]()
		}()
	}
	return c
}

func cloned(c call) call {
	c.f.Zones, c.f.Modes, c.f.Streams = slices.Clone(c.f.Zones), slices.Clone(c.f.Modes), slices.Clone(c.f.Streams)
	for i := range c.f.Streams {
		c.f.Streams[i].Rates = slices.Clone(c.f.Streams[i].Rates)
	}
	c.state, c.plan, c.table = slices.Clone(c.state), slices.Clone(c.plan), slices.Clone(c.table)
	for i := range c.plan {
		c.plan[i].Gains = slices.Clone(c.plan[i].Gains)
	}
	c.b.Oxides, c.b.Shares, c.b.Materials = slices.Clone(c.b.Oxides), slices.Clone(c.b.Shares), slices.Clone(c.b.Materials)
	for i := range c.b.Materials {
		c.b.Materials[i].Content = slices.Clone(c.b.Materials[i].Content)
	}
	c.old, c.now = slices.Clone(c.old), slices.Clone(c.now)
	return c
}

// TestAnything: whatever the arguments are, all functions return, do not change them, and return the same again.
func TestAnything(t *testing.T) {
	r := rand.New(rand.NewSource(61))
	for range 3000 {
		c := wild(r)
		before := cloned(c)
		one := c.answers()
		equal(t, "arguments behind", c, before)
		equal(t, "answers", c.answers(), one)
	}
	equal(t, "nothing", onlyError(call{}.ofFurnace(), api.ErrArg), true)
	for _, x := range good().answers() {
		if e, ok := x.(api.Errno); ok {
			equal(t, "error of what is good", e, api.OK)
		}
	}
}

// TestZeroWithError: with an error every other result is its zero value.
func TestZeroWithError(t *testing.T) {
	r := rand.New(rand.NewSource(62))
	for range 3000 {
		var results []any
		for _, x := range wild(r).answers() {
			results = append(results, x)
			if e, ok := x.(api.Errno); ok {
				if e != api.OK && !onlyError(results, e) {
					t.Fatal(results)
				}
				results = nil
			}
		}
	}
}

// TestAnyText: whatever a text is, Parse returns, with a furnace that may be or an error.
func TestAnyText(t *testing.T) {
	r := rand.New(rand.NewSource(63))
	bytes := []byte(" \n-0123456789abcxyzA\x00\xff\r\t")
	for range 20000 {
		text := []byte(fullText)
		for range 1 + r.Intn(3) {
			i, c := r.Intn(len(text)), bytes[r.Intn(len(bytes))]
			switch r.Intn(3) {
			case 0:
				text[i] = c
			case 1:
				text = slices.Insert(text, i, c)
			default:
				text = slices.Delete(text, i, min(len(text), i+1+r.Intn(9)))
			}
		}
		f, line, e := furnace.Parse(string(text))
		if e != api.OK {
			if !onlyError([]any{f, e}, e) || line < 0 || line > 0 && e != api.ErrForm && e != api.ErrNone {
				t.Fatalf("%q %v %d %v", text, f, line, e)
			}
			continue
		}
		equal(t, "line", line, 0)
		equal(t, "check", furnace.Check(f), api.OK)
		again, e := furnace.Print(f)
		equal(t, "error", e, api.OK)
		equal(t, "text", strings.TrimSuffix(again, "\n"), strings.TrimSuffix(string(text), "\n"))
	}
}

// TestNilAndEmpty: a list that is empty is as one that is not there.
func TestNilAndEmpty(t *testing.T) {
	c := good()
	c.f.Streams, c.plan[0].Gains, c.table = nil, nil, nil
	d := good()
	d.f.Streams, d.plan[0].Gains, d.table = []api.Stream{}, []api.Span{}, []api.WearRow{}
	equal(t, "empty lists", d.ofFurnace(), c.ofFurnace())
	c, d = good(), good()
	c.plan, d.plan = nil, []api.Phase{}
	equal(t, "no plan", d.ofPlan(), c.ofPlan())
	none := call{f: api.Furnace{Zones: []api.Zone{}, Modes: []string{}}, state: []api.Span{}, old: []int{}, now: []int{}}
	equal(t, "nothing", none.answers(), call{}.answers())
}

// TestNewMemory: who writes into a result changes neither an argument nor another result, nor other parts of the same one.
func TestNewMemory(t *testing.T) {
	c, still := good(), good()
	still.plan = nil
	results := func() []any {
		reversed, _ := furnace.Reverse(c.plan[1], c.plan[1], 20)
		parsed, _, _ := furnace.Parse(fullText)
		return append(c.answers(), reversed, parsed, still.ofPlan())
	}
	before := results()
	for _, x := range results() {
		spoil(reflect.ValueOf(x))
	}
	equal(t, "arguments", c, good())
	equal(t, "state", still.state, good().state)
	equal(t, "results", results(), before)

	plan, _ := furnace.Reverse(c.plan[1], c.plan[1], 20)
	plan[0].Gains[0] = just(77)
	plan[0].Gains = append(plan[0].Gains, just(77))
	equal(t, "other phases", plan[1].Gains, good().plan[1].Gains)
	equal(t, "other phases", plan[2].Gains, good().plan[1].Gains)
	parsed, _, _ := furnace.Parse(fullText)
	parsed.Streams[0].Rates = append(parsed.Streams[0].Rates, 77)
	parsed.Modes = append(parsed.Modes, "x")
	equal(t, "other parts", parsed.Streams[1:], full().Streams[1:])
	equal(t, "other parts", parsed.Zones, full().Zones)
}

// spoil sets all numbers to 77 that slices of a result lead to.
func spoil(v reflect.Value) {
	switch v.Kind() {
	case reflect.Interface:
		spoil(v.Elem())
	case reflect.Slice:
		for i := range v.Len() {
			spoil(v.Index(i))
		}
	case reflect.Struct:
		for i := range v.NumField() {
			spoil(v.Field(i))
		}
	case reflect.Int:
		if v.CanSet() {
			v.SetInt(77)
		}
	}
}
