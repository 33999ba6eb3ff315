package ledger_test

import (
	"math"
	"math/rand"
	"reflect"
	"slices"
	"strings"
	"testing"

	"cullet/api"
	"cullet/ledger"
)

// wild numbers: those that lie about limits, and such as nobody would write.
var wildNumbers = []int{0, 1, -1, 2, 3, 5, 7, 8, 9, 64, 65, 256, 257, 999, 1000, 1001, 10000, 10001, 1000000, 1000001, 1000000000, 1000000001, -1000000000, math.MaxInt, math.MinInt, math.MaxInt - 1, 1 << 31, -(1 << 31), 1 << 62}

func wildNumber(r *rand.Rand) int { return wildNumbers[r.Intn(len(wildNumbers))] }

// near is a number that mostly may be.
func near(r *rand.Rand, most int) int {
	if r.Intn(12) == 0 {
		return wildNumber(r)
	}
	return r.Intn(most + 1)
}

func wildSpan(r *rand.Rand, most int) api.Span {
	if r.Intn(8) == 0 {
		return span(wildNumber(r), wildNumber(r))
	}
	return someSpan(r, most)
}

func wildPost(r *rand.Rand) api.Post {
	if r.Intn(3) > 0 {
		return somePost(r, r.Intn(100), 100)
	}
	return api.Post{
		Time: near(r, 100), Kind: api.PostKind(near(r, 9)), Heap: near(r, 3), Lot: near(r, 9), Share: near(r, 1000),
		Kilos: wildSpan(r, 100), Recycled: wildSpan(r, 500), Loss: wildSpan(r, 500),
	}
}

func wildList[T any](r *rand.Rand, of func(*rand.Rand) T) []T {
	var all []T
	for range []int{0, 1, 1, 2, 2, 3, 4, 5, 9, 17, 65, 257}[r.Intn(12)] {
		all = append(all, of(r))
	}
	return all
}

func wildRun(r *rand.Rand) api.Run {
	return api.Run{Time: near(r, 900), Kind: api.RunKind(near(r, 3)), Lot: near(r, 9), Number: near(r, 12), Out: r.Intn(2) > 0}
}

func wildHold(r *rand.Rand) api.Hold {
	return api.Hold{Mould: near(r, 2), From: near(r, 200), To: near(r, 400)}
}

func wildSwitch(r *rand.Rand) api.Switch {
	return api.Switch{Section: near(r, 1), Time: near(r, 900), Mode: near(r, 1)}
}

func wildMaterial(r *rand.Rand) api.Material {
	return api.Material{Name: []string{"a", "b", "sand", "A", ""}[r.Intn(5)], Price: near(r, 9), Most: near(r, 9), Step: near(r, 9), Content: []api.Span{wildSpan(r, 600), wildSpan(r, 600)}}
}

func wildZone(r *rand.Rand) api.Zone {
	return api.Zone{Name: []string{"a", "b", "melt", "A", ""}[r.Intn(5)], Hold: near(r, 100)}
}

// wildText is a text with a line that is another one, or with a few bytes that are.
func wildText(r *rand.Rand, text string) string {
	lines := strings.Split(text, "\n")
	switch i := r.Intn(len(lines)); r.Intn(4) {
	case 0:
		lines[i] = lines[r.Intn(len(lines))]
	case 1:
		lines = slices.Delete(lines, i, i+1)
	case 2:
		lines[i] = []string{"", " ", "hold", "5 claim 7\x00", "\xff", "5 pack 1 2 3"}[r.Intn(6)] + lines[i]
	default:
		b := []byte(text)
		b[r.Intn(len(b))] = byte(r.Intn(256))
		return string(b[:r.Intn(len(b)+1)])
	}
	return strings.Join(lines, "\n")
}

// changes are what spoils a call.
func changes(r *rand.Rand, c *call) []func() {
	return []func(){
		func() { c.b.Hold = wildSpan(r, 2000) },
		func() { c.b.First = wildSpan(r, 2000) },
		func() { c.b.Posts = wildList(r, wildPost) },
		func() { c.b = someBook(r, 40, 100) },
		func() { c.b.Posts[r.Intn(yearEnd)] = wildPost(r) },
		func() { c.b.Posts[r.Intn(yearEnd)].Kind = api.PostKind(near(r, 9)) },
		func() { c.b.Posts[r.Intn(yearEnd)].Kilos = wildSpan(r, 1000) },
		func() { c.b.Posts[r.Intn(yearEnd)].Heap = wildNumber(r) },
		func() { c.b.Posts[r.Intn(yearEnd)].Lot = wildNumber(r) },
		func() { c.b.Posts[r.Intn(yearEnd)].Time = near(r, 100) },
		func() { c.b.Posts = append(c.b.Posts, wildPost(r)) },
		func() { n := r.Intn(yearEnd); c.b.Posts = slices.Delete(c.b.Posts, n, n+1) },
		func() { c.text = wildText(r, c.text) },
		func() { c.a = api.Account(near(r, 3)) },
		func() { c.heap = wildNumber(r) },
		func() { c.posts = near(r, yearEnd) },
		func() { c.posts = wildNumber(r) },
		func() { c.period = wildNumber(r) },
		func() { c.lot = wildNumber(r) },
		func() { c.x.Materials = wildList(r, wildMaterial) },
		func() { c.x.Materials[r.Intn(4)] = wildMaterial(r) },
		func() { c.x.Oxides = wildList(r, func(r *rand.Rand) string { return "a" }) },
		func() { c.recipe = wildList(r, wildNumber) },
		func() { c.recipe[r.Intn(4)] = wildNumber(r) },
		func() { c.recycled = wildList(r, func(r *rand.Rand) api.Span { return wildSpan(r, 900) }) },
		func() { c.recycled[r.Intn(4)] = wildSpan(r, 900) },
		func() { c.material = wildNumber(r) },
		func() { c.f.Zones = wildList(r, wildZone) },
		func() { c.f.Zones[r.Intn(2)] = wildZone(r) },
		func() { c.f.Streams[r.Intn(4)].Rates[r.Intn(2)] = wildNumber(r) },
		func() { c.mode = wildNumber(r) },
		func() { c.c.Every = wildNumber(r) },
		func() { c.c.Stands = make([]api.Stand, r.Intn(6)) },
		func() { c.l = wildList(r, wildRun) },
		func() { c.l[r.Intn(11)] = wildRun(r) },
		func() { c.s.Cavities = wildNumber(r) },
		func() { c.s.Moulds[r.Intn(2)].Number = wildNumber(r) },
		func() { c.m.Cycle = wildNumber(r) },
		func() { c.m.Offsets = wildList(r, wildNumber) },
		func() { c.w = wildList(r, wildSwitch) },
		func() { c.holds = wildList(r, wildHold) },
	}
}

// wild spoils one thing or more of good arguments.
func wild(r *rand.Rand) call {
	c := good()
	all := changes(r, &c)
	for _, i := range r.Perm(len(all))[:1+r.Intn(3)] {
		func() {
			defer func() { recover() }() // a change may come behind one that left nothing to change
			all[i]()
		}()
	}
	return c
}

func cloned(c call) call {
	c.b.Posts = slices.Clone(c.b.Posts)
	c.x.Oxides, c.x.Materials = slices.Clone(c.x.Oxides), slices.Clone(c.x.Materials)
	for i := range c.x.Materials {
		c.x.Materials[i].Content = slices.Clone(c.x.Materials[i].Content)
	}
	c.recipe, c.recycled = slices.Clone(c.recipe), slices.Clone(c.recycled)
	c.f.Zones, c.f.Modes, c.f.Streams = slices.Clone(c.f.Zones), slices.Clone(c.f.Modes), slices.Clone(c.f.Streams)
	for i := range c.f.Streams {
		c.f.Streams[i].Rates = slices.Clone(c.f.Streams[i].Rates)
	}
	c.c.Flaws, c.c.Stands = slices.Clone(c.c.Flaws), slices.Clone(c.c.Stands)
	c.l, c.w, c.holds = slices.Clone(c.l), slices.Clone(c.w), slices.Clone(c.holds)
	c.s.Moulds, c.s.Mounts = slices.Clone(c.s.Moulds), slices.Clone(c.s.Mounts)
	c.m.Offsets, c.m.Modes = slices.Clone(c.m.Offsets), slices.Clone(c.m.Modes)
	return c
}

// TestAnything: whatever the arguments are, all functions return, do not change them, and return the same again (P0.1, R4, R10).
func TestAnything(t *testing.T) {
	r := newRand(101)
	for range 3000 {
		c := wild(r)
		before := cloned(c)
		first := c.answers()
		equal(t, "arguments behind", c, before)
		equal(t, "answers", c.answers(), first)
		ledger.Same(c.b, wild(r).b)
	}
	for _, x := range good().answers() {
		if e, ok := x.(api.Errno); ok {
			equal(t, "error of what is good", e, api.OK)
		}
	}
	for _, x := range (call{}).answers() {
		if e, ok := x.(api.Errno); ok && e != api.OK && e != api.ErrArg && e != api.ErrForm && e != api.ErrNone {
			t.Error("error of what is nothing", e)
		}
	}
}

// TestZeroWithError: with an error every other result is its zero value, but for the line of Read (R2).
func TestZeroWithError(t *testing.T) {
	r := newRand(102)
	kinds := map[api.Errno]int{}
	for range 4000 {
		var results []any
		for _, x := range wild(r).answers() {
			results = append(results, x)
			if e, ok := x.(api.Errno); ok {
				kinds[e]++
				if e != api.OK && !onlyError(results, e) {
					t.Fatal(results)
				}
				results = nil
			}
		}
	}
	for _, e := range []api.Errno{api.OK, api.ErrArg, api.ErrLimit, api.ErrForm, api.ErrName, api.ErrTwice, api.ErrNone, api.ErrState, api.ErrScope, api.ErrClash, api.ErrSum} {
		if kinds[e] == 0 {
			t.Error("no error", e)
		}
	}
}

func none[T any](empty bool) []T {
	if empty {
		return []T{}
	}
	return nil
}

// TestNilAndEmpty: a nil list and an empty one are the same (R3).
func TestNilAndEmpty(t *testing.T) {
	for what, change := range map[string]func(c *call, empty bool){
		"posts":    func(c *call, empty bool) { c.b.Posts = none[api.Post](empty) },
		"recycled": func(c *call, empty bool) { c.recycled = none[api.Span](empty) },
		"recipe":   func(c *call, empty bool) { c.recipe = none[int](empty) },
		"zones":    func(c *call, empty bool) { c.f.Zones = none[api.Zone](empty) },
		"log":      func(c *call, empty bool) { c.l = none[api.Run](empty) },
		"switches": func(c *call, empty bool) { c.w = none[api.Switch](empty) },
		"holds":    func(c *call, empty bool) { c.holds = none[api.Hold](empty) },
	} {
		a, b := good(), good()
		change(&a, false)
		change(&b, true)
		equal(t, what, b.answers(), a.answers())
		equal(t, what+", the same", ledger.Same(a.b, b.b), true)
	}
}

// TestNewMemory: a result shares no memory with an argument, nor with another result (R4).
func TestNewMemory(t *testing.T) {
	c := good()
	before := cloned(c)
	results := func() []any {
		b, _, _ := ledger.Read(c.text)
		other, _, _ := ledger.Read(c.text)
		heaps, _ := ledger.Heaps(c.b)
		periods, _ := ledger.Periods(c.b)
		all, _ := ledger.Recipe(c.x, c.recipe, c.recycled)
		return []any{b.Posts, other.Posts, heaps, periods, all}
	}
	want := results()
	got := results()
	for i, x := range got {
		v := reflect.ValueOf(x)
		if v.Len() == 0 {
			t.Fatal("an empty list", i)
		}
		v = v.Slice(0, v.Cap())
		for j := range v.Len() {
			v.Index(j).SetZero()
		}
		equal(t, "other results", got[i+1:], want[i+1:])
	}
	equal(t, "arguments", c, before)
	equal(t, "results", results(), want)
}
