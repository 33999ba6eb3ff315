package moulds_test

import (
	"math/rand"
	"reflect"
	"slices"
	"testing"

	"cullet/api"
	"cullet/forming"
	"cullet/moulds"
)

func span(low, high int) api.Span { return api.Span{Low: low, High: high} }

func mount(mould, section, cavity, from, to int) api.Mount {
	return api.Mount{Mould: mould, Section: section, Cavity: cavity, From: from, To: to}
}

func bottle(section, cavity, mould, time int, kept bool) api.Ware {
	return api.Ware{Section: section, Cavity: cavity, Mould: mould, Time: time, Kept: kept}
}

// numbered are moulds with these numbers, that live for so many gobs.
func numbered(life int, numbers ...int) []api.Mould {
	var all []api.Mould
	for _, n := range numbers {
		all = append(all, api.Mould{Number: n, Life: life})
	}
	return all
}

func times(all ...int) []api.Sight {
	var sights []api.Sight
	for _, t := range all {
		sights = append(sights, api.Sight{Time: t})
	}
	return sights
}

// pair and its shop are those of the chapter's examples.
func pair() api.Machine {
	return api.Machine{Cycle: 100, Offsets: []int{0, 50}, Modes: []api.Mode{{Name: "run", Gob: 5}}}
}

func pairShop() api.Shop {
	return api.Shop{
		Cavities: 1, Low: 200, High: 210, Moulds: numbered(1000, 11, 12),
		Mounts: []api.Mount{mount(0, 0, 0, 0, 1000), mount(1, 1, 0, 0, 1000)},
	}
}

// press takes gobs at 5, 105, 405 and so on in the section 0, of which those of 405 and 505 are rejected, and at 55, 155, 275, 375 and so on in the section 1, of which that of 275 is rejected. No section may go over to its mode away.
func press() api.Machine {
	home, away := [][]api.Knot{nil}, [][]api.Knot{{{At: 0, Place: 1}}}
	return api.Machine{
		Cycle: 100, Offsets: []int{0, 50}, Spread: 20, Mechs: []api.Mech{{Name: "arm"}},
		Modes: []api.Mode{{Name: "run", Motions: home, Gob: 5, Reject: 2}, {Name: "stop", Motions: home, Gob: -1}, {Name: "late", Motions: home, Gob: 25, Reject: 1}, {Name: "away", Motions: away, Gob: -1}},
	}
}

func pressLog() []api.Switch {
	return []api.Switch{{Section: 0, Time: 200, Mode: 1}, {Section: 1, Time: 255, Mode: 2}, {Section: 0, Time: 400, Mode: 0}}
}

func pressShop() api.Shop {
	return api.Shop{
		Cavities: 2, Low: 20, High: 60, Swap: 10,
		Moulds: []api.Mould{{Number: 11, Life: 3}, {Number: 12, Life: 5}, {Number: 13, Life: 1000}, {Number: 9, Life: 0}},
		Mounts: []api.Mount{mount(0, 0, 0, 20, 290), mount(1, 1, 0, 30, 240), mount(2, 0, 1, 60, 520), mount(1, 1, 1, 300, 700), mount(0, 0, 0, 300, 560)},
	}
}

// pressWare is all ware of press.
func pressWare() []api.Ware {
	return []api.Ware{
		bottle(1, 0, 1, 55, true), bottle(0, 0, 0, 105, true), bottle(0, 1, 2, 105, true), bottle(1, 0, 1, 155, true), bottle(1, 1, 1, 375, true), bottle(0, 0, 0, 405, false),
		bottle(0, 1, 2, 405, false), bottle(1, 1, 1, 475, true), bottle(0, 0, 0, 505, false), bottle(0, 1, 2, 505, false), bottle(1, 1, 1, 575, true), bottle(1, 1, 1, 675, true),
	}
}

// call is arguments of all functions of the package.
type call struct {
	s                           api.Shop
	m                           api.Machine
	l                           []api.Switch
	section, cavity, t          int
	mould, from, to, till, look int
	sights                      []api.Sight
	text                        string
}

// good are arguments with which nothing is wrong.
func good() call {
	text, e := moulds.Print(pressShop())
	if e != api.OK {
		panic(e)
	}
	return call{
		s: pressShop(), m: press(), l: pressLog(), section: 1, cavity: 1, t: 400,
		mould: 1, from: 50, to: 600, till: 700, sights: []api.Sight{{Time: 105, Number: 12}, {Time: 150}, {Time: 420}}, text: text,
	}
}

// answers are the results of all functions, but for the line of Parse.
func (c call) answers() []any {
	shop, _, e := moulds.Parse(c.text)
	all := []any{shop, e}
	text, e := moulds.Print(c.s)
	all = append(all, moulds.Check(c.s), text, e)
	mould, is, e := moulds.Held(c.s, c.section, c.cavity, c.t)
	return append(append(all, mould, is, e), c.ofWare()...)
}

// ofWare are the results of the functions that look at a machine.
func (c call) ofWare() []any {
	var all []any
	two := func(x any, e api.Errno) { all = append(all, x, e) }
	at, e := moulds.Fits(c.s, c.m, c.l)
	two(at, e)
	made, e := moulds.Made(c.s, c.m, c.l, c.from, c.to)
	two(made, e)
	count, e := moulds.Count(c.s, c.m, c.l, c.mould, c.from, c.to)
	two(count, e)
	worn, e := moulds.Worn(c.s, c.m, c.l, c.till)
	two(worn, e)
	windows, e := moulds.Windows(c.s, c.m, c.l, c.mould, c.from, c.to)
	two(windows, e)
	sources, e := c.sources()
	two(sources, e)
	return append(all, c.culprits()...)
}

// sources are those of the sight that the call looks at, of one at the time 0 if there is none.
func (c call) sources() ([]api.Ware, api.Errno) {
	x := api.Sight{}
	if c.look < len(c.sights) {
		x = c.sights[c.look]
	}
	return moulds.Sources(c.s, c.m, c.l, x)
}

func (c call) culprits() []any {
	fewest, first, sure, e := moulds.Culprits(c.s, c.m, c.l, c.sights)
	return []any{fewest, first, sure, e}
}

// wrong spoils arguments, with the error that this makes.
type wrong struct {
	e     api.Errno
	spoil func(*call)
}

// inOrder checks that of two errors the one comes that stands first in a list.
func inOrder(t *testing.T, what string, list []wrong, of func(call) []any) {
	t.Helper()
	for i, first := range list {
		for j, second := range list[i:] {
			c := good()
			second.spoil(&c)
			first.spoil(&c)
			if got := of(c); !onlyError(got, first.e) {
				t.Errorf("%s: %d and %d: got %v, want %v", what, i, i+j, got, first.e)
			}
		}
	}
}

// onlyError tells whether each result is a zero value, but for the errors, which are all e.
func onlyError(results []any, e api.Errno) bool {
	for _, x := range results {
		if got, ok := x.(api.Errno); ok && got != e || !ok && !reflect.ValueOf(x).IsZero() {
			return false
		}
	}
	return true
}

func equal(t *testing.T, what string, got, want any) {
	t.Helper()
	if !reflect.DeepEqual(got, want) {
		t.Errorf("%s: got %v, want %v", what, got, want)
	}
}

// fine checks a result that comes without an error.
func fine(t *testing.T, what string, got any, e api.Errno, want any) {
	t.Helper()
	equal(t, what+": error", e, api.OK)
	equal(t, what, got, want)
}

// list checks a list that comes without an error, of which nil is an empty one.
func list[T comparable](t *testing.T, what string, got []T, e api.Errno, want []T) {
	t.Helper()
	if e != api.OK || !slices.Equal(got, want) {
		t.Errorf("%s: got %v, error %v, want %v", what, got, e, want)
	}
}

func newRand(seed int64) *rand.Rand { return rand.New(rand.NewSource(seed)) }

// someMachine has up to 4 sections that may take gobs at the same time, and modes that may be switched to at any time.
func someMachine(r *rand.Rand) api.Machine {
	m := api.Machine{Cycle: 3 + r.Intn(8)}
	for range 1 + r.Intn(4) {
		m.Offsets = append(m.Offsets, r.Intn(m.Cycle))
	}
	for i := range 1 + r.Intn(3) {
		m.Modes = append(m.Modes, api.Mode{Name: string(rune('a' + i)), Gob: max(-1, r.Intn(m.Cycle+2)-2), Reject: r.Intn(3)})
	}
	return m
}

// someLog has switches of sections that are at least a cycle apart.
func someLog(r *rand.Rand, m api.Machine) []api.Switch {
	var l []api.Switch
	ready := make([]int, len(m.Offsets))
	t := 0
	for range r.Intn(6) {
		section := r.Intn(len(m.Offsets))
		t = max(t, ready[section]) + r.Intn(m.Cycle)
		ready[section] = t + m.Cycle
		l = append(l, api.Switch{Section: section, Time: t, Mode: r.Intn(len(m.Modes))})
	}
	if _, e := forming.Drive(m, l); e != api.OK {
		panic(e)
	}
	return l
}

// lasts is up to which time mounts of some shops last.
const lasts = 90

// someShop has up to 7 moulds in the sections of a machine, most of which change their places.
func someShop(r *rand.Rand, m api.Machine) api.Shop {
	s := api.Shop{Cavities: 1 + r.Intn(3), Low: r.Intn(20), Swap: r.Intn(4)}
	s.High = s.Low + r.Intn(3)*r.Intn(10)
	for i, number := range r.Perm(9)[:r.Intn(8)] {
		s.Moulds = append(s.Moulds, api.Mould{Number: number + 1, Life: r.Intn(6 + i)})
	}
	from := 0
	for range 30 * min(1, len(s.Moulds)) {
		x := mount(r.Intn(len(s.Moulds)), r.Intn(len(m.Offsets)), r.Intn(s.Cavities), from, 0)
		x.To = from + 1 + r.Intn(lasts-from)
		if canMount(s.Mounts, x) {
			s.Mounts = append(s.Mounts, x)
			from += r.Intn(2) * r.Intn(min(8, lasts-from))
		}
	}
	return s
}

// canMount tells, time by time, whether a mould is nowhere else, and a cavity is free.
func canMount(before []api.Mount, x api.Mount) bool {
	for t := x.From; t < x.To; t++ {
		for _, y := range before {
			if y.From <= t && t < y.To && (y.Mould == x.Mould || y.Section == x.Section && y.Cavity == x.Cavity) {
				return false
			}
		}
	}
	return true
}

// someCall is a shop in a machine with a log, and times.
func someCall(r *rand.Rand) call {
	m := someMachine(r)
	c := call{s: someShop(r, m), m: m, l: someLog(r, m), from: r.Intn(lasts)}
	c.to = c.from + r.Intn(lasts)
	c.till = r.Intn(lasts)
	c.mould = r.Intn(max(1, len(c.s.Moulds)))
	for range 1 + r.Intn(5) {
		c.sights = append(c.sights, api.Sight{Time: r.Intn(lasts + 20), Number: max(0, r.Intn(15)-5)})
	}
	return c
}

// gobsAt are the gobs that are taken at a time.
func (c call) gobsAt(t int) []api.Gob {
	all, e := forming.Gobs(c.m, c.l, t, t)
	if e != api.OK {
		panic(e)
	}
	return all
}

// made is the ware of some times, as the chapter says it, time by time and mount by mount.
func (c call) made(from, to int) []api.Ware {
	var all []api.Ware
	for t := from; t <= to; t++ {
		for _, g := range c.gobsAt(t) {
			for cavity := range c.s.Cavities {
				for _, x := range c.s.Mounts {
					if x.Section == g.Section && x.Cavity == cavity && x.From <= t && t < x.To {
						all = append(all, bottle(g.Section, cavity, x.Mould, t, g.Kept))
					}
				}
			}
		}
	}
	return all
}

// mayBe tells whether a sight may be a bottle, as the chapter says it, delay by delay.
func (c call) mayBe(x api.Sight, y api.Ware) bool {
	for delay := c.s.Low; delay <= c.s.High; delay++ {
		if y.Time+delay == x.Time && y.Kept {
			return x.Number == 0 || x.Number == c.s.Moulds[y.Mould].Number
		}
	}
	return false
}
