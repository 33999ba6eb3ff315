package ledger_test

import (
	"math/big"
	"math/rand"
	"reflect"
	"slices"
	"testing"

	"cullet/api"
	"cullet/ledger"
)

func span(low, high int) api.Span { return api.Span{Low: low, High: high} }

func in(time int, kilos, recycled, loss api.Span) api.Post {
	return api.Post{Time: time, Kind: api.PoIn, Kilos: kilos, Recycled: recycled, Loss: loss}
}

func charge(time, heap, low, high int) api.Post {
	return api.Post{Time: time, Kind: api.PoCharge, Heap: heap, Kilos: span(low, high)}
}

func pull(time, low, high int) api.Post {
	return api.Post{Time: time, Kind: api.PoPull, Kilos: span(low, high)}
}

func pack(time, lot, low, high int) api.Post {
	return api.Post{Time: time, Kind: api.PoPack, Lot: lot, Kilos: span(low, high)}
}

func back(time, low, high int) api.Post {
	return api.Post{Time: time, Kind: api.PoBack, Kilos: span(low, high)}
}

func end(time int) api.Post { return api.Post{Time: time, Kind: api.PoClose} }

func claim(time, lot, share int) api.Post {
	return api.Post{Time: time, Kind: api.PoClaim, Lot: lot, Share: share}
}

func comeBack(time, lot int) api.Post { return api.Post{Time: time, Kind: api.PoReturn, Lot: lot} }

// book has a furnace that holds from 0 to 1000 kilograms, and 500 at the beginning.
func book(posts ...api.Post) api.Book {
	return api.Book{Hold: span(0, 1000), First: span(500, 500), Posts: posts}
}

// month is the book of the chapter's examples.
func month() api.Book {
	return api.Book{Hold: span(900, 1300), First: span(1000, 1000), Posts: []api.Post{
		in(0, span(500, 500), span(600, 700), span(0, 0)), charge(0, 0, 200, 210), pull(0, 190, 200), pack(0, 7, 180, 180), end(0),
	}}
}

// The posts of year.
const (
	cullet = iota
	sand
	chargedCullet
	chargedSand
	pulled
	packed7
	packed6
	broken
	closed
	chargedBroken
	pulledMore
	packed8
	claimed7
	brokenMore
	closedMore
	returned7
	claimed6
	chargedMore
	pulledLast
	packed9
	returned9
	yearEnd
)

// year has three periods, of which the last one is not closed. Lot 8 may not be certified, as in its period nothing is surely recycled.
func year() api.Book {
	return api.Book{Hold: span(500, 2000), First: span(800, 1000), Posts: []api.Post{
		in(5, span(500, 510), span(600, 700), span(0, 0)), in(6, span(1000, 1000), span(0, 0), span(150, 200)),
		charge(10, 0, 200, 210), charge(10, 1, 300, 300), pull(20, 300, 310), pack(25, 7, 180, 182), pack(26, 6, 10, 10), back(30, 90, 100), end(40),
		charge(41, 2, 50, 60), pull(50, 200, 200), pack(55, 8, 150, 150), claim(56, 7, 200), back(57, 40, 45), end(60),
		comeBack(70, 7), claim(71, 6, 100), charge(75, 3, 10, 20), pull(80, 100, 100), pack(81, 9, 60, 60), comeBack(90, 9),
	}}
}

const yearText = "hold 500 2000 800 1000\n5 in 500 510 600 700 0 0\n6 in 1000 1000 0 0 150 200\n10 charge 0 200 210\n10 charge 1 300 300\n20 pull 300 310\n25 pack 7 180 182\n26 pack 6 10 10\n30 back 90 100\n40 close\n41 charge 2 50 60\n50 pull 200 200\n55 pack 8 150 150\n56 claim 7 200\n57 back 40 45\n60 close\n70 return 7\n71 claim 6 100\n75 charge 3 10 20\n80 pull 100 100\n81 pack 9 60 60\n90 return 9\n"

// mix has materials that lose nothing, something, and maybe nothing.
func mix() api.Batch {
	return api.Batch{
		Oxides: []string{"si", "na"},
		Materials: []api.Material{
			{Name: "sand", Price: 1, Most: 200, Step: 20, Content: []api.Span{span(980, 1000), span(0, 0)}},
			{Name: "soda", Price: 4, Most: 100, Step: 20, Content: []api.Span{span(0, 0), span(570, 580)}},
			{Name: "dust", Most: 10, Step: 1, Content: []api.Span{span(0, 700), span(0, 700)}},
			{Name: "cullet", Most: 100, Step: 10, Content: []api.Span{span(700, 700), span(200, 250)}},
		},
		Shares: []api.Span{span(700, 800), span(200, 300)},
		Redox:  span(-9999, 9999),
		Wanted: 100,
	}
}

// two is the furnace of chapter 2, with a mode in which nothing is pulled.
func two() api.Furnace {
	return api.Furnace{
		Zones: []api.Zone{{Name: "melt", Hold: 100}, {Name: "nose", Hold: 50}},
		Modes: []string{"day", "rest"},
		Streams: []api.Stream{
			{From: -1, To: 0, Rates: []int{10, 0}}, {From: 0, To: 1, Rates: []int{20, 0}},
			{From: 1, To: 0, Rates: []int{10, 0}}, {From: 1, To: -1, Rates: []int{10, 0}},
		},
	}
}

// eye is a line of inspection that challenges its only station.
func eye() api.Checker {
	return api.Checker{Every: 1000, Flaws: []api.Flaw{{Name: "crack", Need: 1}}, Stands: []api.Stand{{Name: "eye", Claims: []api.Claim{{Miss: 1, Of: 50}}}}}
}

func bottle(time, lot, number int) api.Run {
	return api.Run{Time: time, Kind: api.RuBottle, Lot: lot, Number: number}
}

func sample(time int, found bool) api.Run {
	return api.Run{Time: time, Kind: api.RuChallenge, Out: found}
}

// eyeLog clears the lots 6 to 9 and 1, blocks 2, and leaves 3 open; of what it clears, holds keep back 1.
func eyeLog() []api.Run {
	return []api.Run{
		sample(100, true), bottle(204, 6, 11), bottle(205, 1, 11), bottle(216, 7, 11), bottle(300, 8, 12), bottle(305, 9, 12), sample(400, true),
		bottle(500, 2, 12), sample(600, false), sample(601, true), bottle(700, 3, 12),
	}
}

func pairShop() api.Shop {
	return api.Shop{
		Cavities: 1, Low: 200, High: 210, Moulds: []api.Mould{{Number: 11}, {Number: 12}},
		Mounts: []api.Mount{{From: 0, To: 1000}, {Mould: 1, Section: 1, From: 0, To: 1000}},
	}
}

// pair takes gobs at 5, 105 and so on in the section 0, and at 55, 155 and so on in the section 1.
func pair() api.Machine {
	return api.Machine{Cycle: 100, Offsets: []int{0, 50}, Modes: []api.Mode{{Name: "run", Gob: 5}, {Name: "stop", Gob: -1}}}
}

// call is arguments of all functions of the package.
type call struct {
	b           api.Book
	text        string
	a           api.Account
	heap, posts int
	period, lot int
	x           api.Batch
	recipe      []int
	recycled    []api.Span
	material    int
	f           api.Furnace
	mode        int
	c           api.Checker
	l           []api.Run
	s           api.Shop
	m           api.Machine
	w           []api.Switch
	holds       []api.Hold
}

// good are arguments with which nothing is wrong.
func good() call {
	return call{
		b: year(), text: yearText, a: api.AcHeap, heap: 2, posts: 12, period: 1, lot: 8,
		x: mix(), recipe: []int{80, 60, 0, 20}, recycled: []api.Span{span(0, 0), span(0, 10), span(0, 0), span(500, 900)}, material: 2,
		f: two(), mode: 1,
		c: eye(), l: eyeLog(), s: pairShop(), m: pair(), w: []api.Switch{{Section: 1, Time: 900, Mode: 1}}, holds: []api.Hold{{Mould: 0, From: 0, To: 4}, {Mould: 0, From: 0, To: 5}},
	}
}

func (c call) amount() []any {
	amount, e := ledger.Amount(c.b, c.a, c.heap, c.posts)
	return []any{amount, e}
}

func (c call) share() []any {
	share, e := ledger.Share(c.b, c.period)
	return []any{share, e}
}

func (c call) most() []any {
	share, e := ledger.Most(c.b, c.lot)
	return []any{share, e}
}

func (c call) fromRecipe() []any {
	all, e := ledger.Recipe(c.x, c.recipe, c.recycled)
	return []any{all, e}
}

func (c call) loss() []any {
	loss, e := ledger.Loss(c.x, c.material)
	return []any{loss, e}
}

func (c call) furnace() []any {
	hold, e := ledger.Furnace(c.f, c.mode)
	return []any{hold, e}
}

func (c call) packed() []any {
	post, e := ledger.Packed(c.b, c.c, c.l, c.s, c.m, c.w, c.holds)
	return []any{post, e}
}

// read is the result of Read but for the line.
func (c call) read() []any {
	b, _, e := ledger.Read(c.text)
	return []any{b, e}
}

// checked are the results of the functions that have no error but Check's.
func (c call) checked() []any {
	text, e1 := ledger.Write(c.b)
	post, a, heap, e2 := ledger.Wrong(c.b)
	heaps, e3 := ledger.Heaps(c.b)
	periods, e4 := ledger.Periods(c.b)
	covered, e5 := ledger.Covered(c.b)
	return []any{ledger.Check(c.b), text, e1, post, a, heap, e2, heaps, e3, periods, e4, covered, e5}
}

// answers are the results of all functions, but for the line of Read.
func (c call) answers() []any {
	return slices.Concat(c.checked(), c.read(), c.amount(), c.share(), c.most(), c.fromRecipe(), c.loss(), c.furnace(), c.packed())
}

// wrong spoils arguments, with the error that this makes.
type wrong struct {
	e     api.Errno
	spoil func(*call)
}

// inOrder checks that of two errors the one comes that stands first in a list.
func inOrder(t *testing.T, what string, list []wrong, of func(call) []any) {
	t.Helper()
	for i, first := range list {
		for j, second := range list[i:] {
			c := good()
			second.spoil(&c)
			first.spoil(&c)
			if got := of(c); !onlyError(got, first.e) {
				t.Errorf("%s: %d and %d: got %v, want %v", what, i, i+j, got, first.e)
			}
		}
	}
}

// onlyError tells whether each result is a zero value, but for the errors, which are all e.
func onlyError(results []any, e api.Errno) bool {
	for _, x := range results {
		if got, ok := x.(api.Errno); ok && got != e || !ok && !reflect.ValueOf(x).IsZero() {
			return false
		}
	}
	return true
}

func equal(t *testing.T, what string, got, want any) {
	t.Helper()
	if !reflect.DeepEqual(got, want) {
		t.Errorf("%s: got %v, want %v", what, got, want)
	}
}

// fine checks a result that comes without an error.
func fine(t *testing.T, what string, got any, e api.Errno, want any) {
	t.Helper()
	equal(t, what+": error", e, api.OK)
	equal(t, what, got, want)
}

// list checks a list that comes without an error, of which nil is an empty one.
func list[T comparable](t *testing.T, what string, got []T, e api.Errno, want []T) {
	t.Helper()
	if e != api.OK || !slices.Equal(got, want) {
		t.Errorf("%s: got %v, error %v, want %v", what, got, e, want)
	}
}

func newRand(seed int64) *rand.Rand { return rand.New(rand.NewSource(seed)) }

// someSpan is a span of numbers up to most.
func someSpan(r *rand.Rand, most int) api.Span {
	low := r.Intn(most + 1)
	return span(low, low+r.Intn(most-low+1))
}

// somePost is a post of any kind, which may not be allowed behind others, with kilograms up to most.
func somePost(r *rand.Rand, time, most int) api.Post {
	kilos := someSpan(r, most)
	switch r.Intn(9) {
	case 0:
		loss := someSpan(r, 1000)
		return in(time, kilos, someSpan(r, 1000-loss.High), loss)
	case 1:
		return in(time, kilos, someSpan(r, 1000), span(0, 0))
	case 2:
		return charge(time, r.Intn(5), kilos.Low, kilos.High)
	case 3:
		return pull(time, kilos.Low, kilos.High)
	case 4:
		return pack(time, r.Intn(12), kilos.Low, kilos.High)
	case 5:
		return back(time, kilos.Low, kilos.High)
	case 6:
		return end(time)
	case 7:
		return claim(time, r.Intn(12), 1+r.Intn(1000))
	default:
		return comeBack(time, r.Intn(12))
	}
}

// someBook is a book with at most so many posts.
func someBook(r *rand.Rand, count, most int) api.Book {
	full := min(3*most, api.MaxMass)
	hold := someSpan(r, full)
	b := api.Book{Hold: hold, First: someSpan(r, full)}
	if ledger.Check(b) != api.OK {
		b.First = hold
	}
	time := 0
	for range count {
		longer := append(slices.Clone(b.Posts), somePost(r, time, most))
		if ledger.Check(api.Book{Hold: b.Hold, First: b.First, Posts: longer}) == api.OK {
			b.Posts = longer
		}
		time += r.Intn(3)
	}
	return b
}

// quotient is that of two numbers.
func quotient(a, b int) *big.Rat { return big.NewRat(int64(a), int64(b)) }

// isIn tells whether a number lies in a span.
func isIn(x *big.Rat, s api.Span) bool {
	return x.Cmp(quotient(s.Low, 1)) >= 0 && x.Cmp(quotient(s.High, 1)) <= 0
}
