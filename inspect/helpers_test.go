package inspect_test

import (
	"math/big"
	"math/rand"
	"reflect"
	"slices"
	"testing"

	"cullet/api"
	"cullet/inspect"
)

func bottle(time, lot, number int, out bool) api.Run {
	return api.Run{Time: time, Kind: api.RuBottle, Lot: lot, Number: number, Out: out}
}

func sample(time, stand, class int, found bool) api.Run {
	return api.Run{Time: time, Kind: api.RuChallenge, Stand: stand, Class: class, Out: found}
}

func flaw(name string, need int) api.Flaw { return api.Flaw{Name: name, Need: need} }

func claim(class, miss, of int) api.Claim { return api.Claim{Class: class, Miss: miss, Of: of} }

func stand(name string, claims ...api.Claim) api.Stand { return api.Stand{Name: name, Claims: claims} }

func span(low, high int) api.Span { return api.Span{Low: low, High: high} }

// eye and its log are those of the chapter's examples.
func eye() api.Checker {
	return api.Checker{Every: 100, Flaws: []api.Flaw{flaw("crack", 1)}, Stands: []api.Stand{stand("eye", claim(0, 1, 50))}}
}

func eyeLog() []api.Run {
	return []api.Run{sample(10, 0, 0, true), bottle(20, 7, 0, false), sample(60, 0, 0, true), bottle(70, 8, 0, false), sample(90, 0, 0, false), bottle(95, 9, 0, false)}
}

// The classes and stations of hall.
const (
	crack = iota
	stone
	tint
)

const (
	eyes = iota
	ray
	touch
	tap
)

// hall has classes that need one station, two, and none, and a station that claims nothing.
func hall() api.Checker {
	return api.Checker{
		Every: 100,
		Flaws: []api.Flaw{flaw("crack", 1), flaw("stone", 2), flaw("tint", 0)},
		Stands: []api.Stand{
			stand("eye", claim(crack, 1, 50), claim(stone, 2, 10)), stand("ray", claim(stone, 1, 4), claim(tint, 3, 9)),
			stand("touch"), stand("tap", claim(stone, 5, 6), claim(crack, 0, 1)),
		},
	}
}

// hallLog has a lot that is clear (7), one that is blocked (8), one that is open (6), and one of which all bottles were rejected (9).
func hallLog() []api.Run {
	return []api.Run{
		sample(10, eyes, crack, true), sample(10, eyes, stone, true), sample(12, ray, stone, true), bottle(20, 7, 11, false), bottle(30, 7, 12, true),
		sample(40, eyes, crack, true), sample(50, eyes, stone, true), sample(60, ray, stone, true), bottle(70, 8, 12, false), bottle(80, 9, 0, true), bottle(90, 8, 0, false),
		sample(100, eyes, crack, false), sample(105, eyes, crack, true), bottle(110, 6, 11, false), sample(120, eyes, crack, true), bottle(130, 6, 0, false), sample(140, ray, stone, true),
	}
}

// hallVerdicts are what is known of the bottles of hallLog, and of which class.
func hallVerdicts() map[int]judgement {
	return map[int]judgement{3: {api.VeClear, -1}, 4: {api.VeOut, -1}, 8: {api.VeSuspect, crack}, 9: {api.VeOut, -1}, 10: {api.VeSuspect, crack}, 13: {api.VeOpen, stone}, 15: {api.VeOpen, crack}}
}

// judgement is what Judge says.
type judgement struct {
	verdict api.Verdict
	class   int
}

// pair takes gobs at 5, 105 and so on in the section 0, and at 55, 155 and so on in the section 1.
func pair() api.Machine {
	return api.Machine{Cycle: 100, Offsets: []int{0, 50}, Spread: 20, Modes: []api.Mode{{Name: "run", Gob: 5, Reject: 1}, {Name: "stop", Gob: -1}}}
}

// pairLog stops the section 0 from 210 to 430; behind that its ware is rejected for a cycle.
func pairLog() []api.Switch {
	return []api.Switch{{Section: 0, Time: 210, Mode: 1}, {Section: 0, Time: 430, Mode: 0}}
}

func pairShop() api.Shop {
	return api.Shop{
		Cavities: 1, Low: 0, High: 10, Swap: 3, Moulds: []api.Mould{{Number: 11, Life: 9}, {Number: 12, Life: 9}, {Number: 13, Life: 9}},
		Mounts: []api.Mount{{Mould: 0, From: 0, To: 1000}, {Mould: 1, Section: 1, From: 0, To: 1000}},
	}
}

// call is arguments of all functions of the package.
type call struct {
	c                   api.Checker
	l                   []api.Run
	stand, class, entry int
	s                   api.Shop
	m                   api.Machine
	w                   []api.Switch
	holds               []api.Hold
	text, log           string
}

// good are arguments with which nothing is wrong.
func good() call {
	text, e := inspect.Print(hall())
	log, f := inspect.Write(hall(), hallLog())
	if e != api.OK || f != api.OK {
		panic("what is good is not")
	}
	return call{
		c: hall(), l: hallLog(), stand: ray, class: stone, entry: 3, text: text, log: log,
		s: pairShop(), m: pair(), w: pairLog(), holds: []api.Hold{{Mould: 2, From: 0, To: 9}, {Mould: 0, From: 0, To: 200}},
	}
}

// answers are the results of all functions, but for the lines of Parse and Read.
func (c call) answers() []any {
	var all []any
	two := func(x any, e api.Errno) { all = append(all, x, e) }
	checker, _, e := inspect.Parse(c.text)
	two(checker, e)
	text, e := inspect.Print(c.c)
	two(text, e)
	log, _, e := inspect.Read(c.c, c.log)
	two(log, e)
	text, e = inspect.Write(c.c, c.l)
	two(text, e)
	trust, e := inspect.Trusted(c.c, c.l, c.stand, c.class, c.entry)
	two(trust, e)
	blocked, e := inspect.Blocked(c.c, c.l)
	two(blocked, e)
	held, e := inspect.Held(c.c, c.l, c.s, c.m, c.w, c.holds)
	two(held, e)
	free, e := inspect.Release(c.c, c.l, c.s, c.m, c.w, c.holds)
	two(free, e)
	all = append(all, inspect.Check(c.c), inspect.CheckLog(c.c, c.l))
	return slices.Concat(all, c.judged(), c.missed(), c.lots())
}

func (c call) judged() []any {
	v, class, e := inspect.Judge(c.c, c.l, c.entry)
	return []any{v, class, e}
}

func (c call) missed() []any {
	worst, bottles, e := inspect.Missed(c.c, c.l, c.class)
	return []any{worst, bottles, e}
}

func (c call) lots() []any {
	clear, blocked, open, e := inspect.Lots(c.c, c.l)
	return []any{clear, blocked, open, e}
}

// wrong spoils arguments, with the error that this makes.
type wrong struct {
	e     api.Errno
	spoil func(*call)
}

// inOrder checks that of two errors the one comes that stands first in a list.
func inOrder(t *testing.T, what string, list []wrong, of func(call) []any) {
	t.Helper()
	for i, first := range list {
		for j, second := range list[i:] {
			c := good()
			second.spoil(&c)
			first.spoil(&c)
			if got := of(c); !onlyError(got, first.e) {
				t.Errorf("%s: %d and %d: got %v, want %v", what, i, i+j, got, first.e)
			}
		}
	}
}

// onlyError tells whether each result is a zero value, but for the errors, which are all e.
func onlyError(results []any, e api.Errno) bool {
	for _, x := range results {
		if got, ok := x.(api.Errno); ok && got != e || !ok && !reflect.ValueOf(x).IsZero() {
			return false
		}
	}
	return true
}

func equal(t *testing.T, what string, got, want any) {
	t.Helper()
	if !reflect.DeepEqual(got, want) {
		t.Errorf("%s: got %v, want %v", what, got, want)
	}
}

// fine checks a result that comes without an error.
func fine(t *testing.T, what string, got any, e api.Errno, want any) {
	t.Helper()
	equal(t, what+": error", e, api.OK)
	equal(t, what, got, want)
}

// list checks a list that comes without an error, of which nil is an empty one.
func list[T comparable](t *testing.T, what string, got []T, e api.Errno, want []T) {
	t.Helper()
	if e != api.OK || !slices.Equal(got, want) {
		t.Errorf("%s: got %v, error %v, want %v", what, got, e, want)
	}
}

func newRand(seed int64) *rand.Rand { return rand.New(rand.NewSource(seed)) }

// someChecker is a line of inspection of up to 3 classes and 4 stations.
func someChecker(r *rand.Rand) api.Checker {
	c := api.Checker{Every: 1 + r.Intn(40)}
	for i := range r.Intn(4) {
		c.Flaws = append(c.Flaws, flaw(string(rune('a'+i)), r.Intn(3)))
	}
	for i := range r.Intn(5) {
		x := stand(string(rune('p' + i)))
		for _, class := range r.Perm(len(c.Flaws)) {
			if r.Intn(3) > 0 {
				of := 1 + r.Intn(12)
				x.Claims = append(x.Claims, claim(class, r.Intn(of+1), of))
			}
		}
		c.Stands = append(c.Stands, x)
	}
	return c
}

// claimed are the pairs of a station and a class for which it claims something.
func claimed(c api.Checker) [][2]int {
	var all [][2]int
	for stand, x := range c.Stands {
		for _, y := range x.Claims {
			all = append(all, [2]int{stand, y.Class})
		}
	}
	return all
}

// someLog is a log in which most challenges are found.
func someLog(r *rand.Rand, c api.Checker) []api.Run {
	var l []api.Run
	t := r.Intn(10)
	pairs := claimed(c)
	for range r.Intn(40) {
		if len(pairs) > 0 && r.Intn(3) > 0 {
			x := pairs[r.Intn(len(pairs))]
			l = append(l, sample(t, x[0], x[1], r.Intn(8) > 0))
		} else {
			l = append(l, bottle(t, r.Intn(5), 11+r.Intn(3), r.Intn(6) == 0))
		}
		t += r.Intn(2) * r.Intn(6)
	}
	return l
}

// trusted is what is known of a station at a bottle, as the chapter says it, entry by entry.
func trusted(c api.Checker, l []api.Run, stand, class, entry int) api.Trust {
	claims := slices.ContainsFunc(c.Stands[stand].Claims, func(x api.Claim) bool { return x.Class == class })
	var before, behind []api.Run
	for i, x := range l {
		switch {
		case x.Kind != api.RuChallenge || x.Stand != stand || x.Class != class:
		case i < entry:
			before = append(before, x)
		default:
			behind = append(behind, x)
		}
	}
	if !claims || len(before) == 0 || !before[len(before)-1].Out {
		return api.TrBad
	}
	last := before[len(before)-1].Time
	if len(behind) > 0 {
		if !behind[0].Out || behind[0].Time > last+c.Every {
			return api.TrBad
		}
		return api.TrGood
	}
	if l[len(l)-1].Time > last+c.Every {
		return api.TrBad
	}
	return api.TrOpen
}

// judged is what is known of a bottle, as the chapter says it.
func judged(c api.Checker, l []api.Run, entry int) judgement {
	if l[entry].Out {
		return judgement{api.VeOut, -1}
	}
	// how many stations are good, and how many are not bad, less those that are needed
	good, left := make([]int, len(c.Flaws)), make([]int, len(c.Flaws))
	for class, x := range c.Flaws {
		good[class], left[class] = -x.Need, -x.Need
		for stand := range c.Stands {
			switch trusted(c, l, stand, class, entry) {
			case api.TrGood:
				good[class]++
				left[class]++
			case api.TrOpen:
				left[class]++
			}
		}
	}
	isLess := func(n int) bool { return n < 0 }
	if class := slices.IndexFunc(left, isLess); class >= 0 {
		return judgement{api.VeSuspect, class}
	}
	if class := slices.IndexFunc(good, isLess); class >= 0 {
		return judgement{api.VeOpen, class}
	}
	return judgement{api.VeClear, -1}
}

// kept are the bottles of a log that were not rejected.
func kept(l []api.Run) []int {
	var all []int
	for i, x := range l {
		if x.Kind == api.RuBottle && !x.Out {
			all = append(all, i)
		}
	}
	return all
}

// share is how many flawed bottles may have passed, as the chapter says it.
func share(c api.Checker, l []api.Run, class int) (worst *big.Rat, bottles int) {
	worst = new(big.Rat)
	for _, entry := range kept(l) {
		if judged(c, l, entry).verdict != api.VeClear {
			continue
		}
		bottles++
		product := big.NewRat(1, 1)
		for stand, x := range c.Stands {
			for _, y := range x.Claims {
				if y.Class == class && trusted(c, l, stand, class, entry) == api.TrGood {
					product.Mul(product, big.NewRat(int64(y.Miss), int64(y.Of)))
				}
			}
		}
		if product.Cmp(worst) > 0 {
			worst = product
		}
	}
	return worst, bottles
}

// lotsOf are the lots, as the chapter says it, number by number.
func lotsOf(c api.Checker, l []api.Run, most int) (clear, blocked, open []int) {
	for lot := range most + 1 {
		counts := map[api.Verdict]int{}
		all := 0
		for _, entry := range kept(l) {
			if l[entry].Lot == lot {
				all++
				counts[judged(c, l, entry).verdict]++
			}
		}
		switch {
		case all == 0:
		case counts[api.VeClear] == all:
			clear = append(clear, lot)
		case counts[api.VeSuspect] > 0:
			blocked = append(blocked, lot)
		default:
			open = append(open, lot)
		}
	}
	return clear, blocked, open
}
