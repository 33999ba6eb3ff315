package forming_test

import (
	"math"
	"math/big"
	"math/rand"
	"slices"
	"strconv"
	"testing"

	"cullet/api"
	"cullet/forming"
)

// TestWhere: the position at a time follows from the knots, in each cycle alike (P4.1).
func TestWhere(t *testing.T) {
	for _, x := range []struct {
		cycle, home  int
		motion       []api.Knot
		at, position api.Ratio
	}{
		{100, 0, chart(), whole(10), whole(50)},
		{100, 0, chart(), whole(130), whole(100)},
		{100, 0, chart(), ratio(1, 3), ratio(5, 3)},
		{100, 0, chart(), whole(0), whole(0)},
		{100, 0, chart(), whole(20), whole(100)},
		{100, 0, chart(), whole(100), whole(0)},
		{100, 0, chart(), whole(-30), whole(50)},
		{100, 0, chart(), whole(-1), whole(0)},
		{100, 0, chart(), ratio(-181, 2), ratio(95, 2)},
		{100, 0, chart(), whole(api.MaxClock - 90), whole(50)},
		{100, 0, chart(), whole(-api.MaxClock), whole(0)},
		{100, 7, nil, ratio(1, 3), whole(7)},
		{100, 7, knots(0, 9), ratio(1, 3), whole(9)},
		{1, 0, knots(0, 9), ratio(-7, 2), whole(9)},
		{100, 0, knots(0, 50, 60, 80), whole(70), ratio(145, 2)}, // on the way back to the first knot
		{100, 0, knots(0, 50, 60, 80), whole(-40), whole(80)},
		{100, 0, knots(0, 80, 99, 50), ratio(199, 2), whole(65)},
		{3600, 0, knots(0, 0, 3599, api.MaxPlace), ratio(1, 1000000), ratio(1, 3599)},
		{3600, 0, knots(0, 0, 3599, api.MaxPlace), ratio(999999999, 999983), ratio(999999999000000, 999983*3599)},
		{3600, api.MaxPlace, nil, ratio(-999999999, 1000000), whole(api.MaxPlace)},
	} {
		got, e := forming.Where(x.cycle, x.home, x.motion, x.at)
		want := fromRat(rat(x.position)) // in lowest terms
		if e != api.OK || got != want {
			t.Errorf("%v: got %v, %v", x, got, e)
		}
	}
}

// motionErrors are motions that may not be, and some that may.
type wrongMotion struct {
	cycle, home int
	motion      []api.Knot
	e           api.Errno
}

func motionErrors() map[string]wrongMotion {
	var most []api.Knot
	for i := range api.MaxKnots + 1 {
		most = append(most, api.Knot{At: i, Place: i})
	}
	late := slices.Clone(most)
	late[0].At = -1
	return map[string]wrongMotion{
		"good":                 {100, 0, chart(), api.OK},
		"most knots":           {api.MaxCycle, api.MaxPlace, most[:api.MaxKnots], api.OK},
		"short":                {api.MaxKnots, 0, most[:api.MaxKnots], api.OK},
		"ends":                 {2, 0, knots(0, 0, 1, api.MaxPlace), api.OK},
		"no cycle":             {0, 0, nil, api.ErrArg},
		"cycle below":          {-1, 0, chart(), api.ErrArg},
		"cycle above":          {api.MaxCycle + 1, 0, chart(), api.ErrArg},
		"greatest cycle":       {math.MaxInt, 0, chart(), api.ErrArg},
		"home below":           {100, -1, chart(), api.ErrArg},
		"home above":           {100, api.MaxPlace + 1, nil, api.ErrArg},
		"cycle ahead of knots": {0, 0, most, api.ErrArg},
		"home ahead of knots":  {100, -1, most, api.ErrArg},
		"too many":             {100, 0, most, api.ErrLimit},
		"too many, and wrong":  {100, 0, late, api.ErrLimit},
		"place below":          {100, 0, knots(0, 0, 5, -1), api.ErrArg},
		"place above":          {100, 0, knots(0, api.MaxPlace+1), api.ErrArg},
		"late":                 {100, 0, knots(1, 0), api.ErrArg},
		"early":                {100, 0, knots(-1, 0), api.ErrArg},
		"late, rising":         {100, 0, knots(1, 0, 2, 0), api.ErrArg},
		"twice":                {100, 0, knots(0, 0, 5, 1, 5, 1), api.ErrArg},
		"falls":                {100, 0, knots(0, 0, 5, 1, 4, 1), api.ErrArg},
		"zero twice":           {100, 0, knots(0, 0, 0, 0), api.ErrArg},
		"at the cycle":         {100, 0, knots(0, 0, 100, 0), api.ErrArg},
		"behind the cycle":     {100, 0, knots(0, 0, math.MaxInt, 0), api.ErrArg},
		"cycle of one":         {1, 0, knots(0, 0, 1, 0), api.ErrArg},
		"all in the cycle":     {api.MaxKnots - 1, 0, most[:api.MaxKnots], api.ErrArg},
	}
}

// TestMotionErrors: the error of a motion comes ahead of that of a time or a span (P4.1).
func TestMotionErrors(t *testing.T) {
	for what, x := range motionErrors() {
		place, e := forming.Where(x.cycle, x.home, x.motion, whole(0))
		equal(t, what+": Where", e, x.e)
		all, f := forming.Stretches(x.cycle, x.home, x.motion, span(0, 0))
		equal(t, what+": Stretches", f, x.e)
		if x.e == api.OK {
			continue
		}
		equal(t, what+": results", onlyError([]any{place, all, e}, x.e), true)
		_, e = forming.Where(x.cycle, x.home, x.motion, ratio(0, 0))
		equal(t, what+": Where, time", e, x.e)
		_, e = forming.Stretches(x.cycle, x.home, x.motion, span(math.MinInt, 0))
		equal(t, what+": Stretches, span", e, x.e)
	}
}

// badTimes are quotients that are no times anywhere, goodTimes such as are those of Where.
func badTimes() []api.Ratio {
	return []api.Ratio{
		{}, ratio(1, 0), ratio(0, -1), ratio(1, -1), ratio(1, api.MaxPlace+1), ratio(0, 2), ratio(2, 2), ratio(-2, 4), ratio(6, 9), ratio(15, 1000),
		ratio(math.MinInt, 2), ratio(1, math.MaxInt), ratio(1, math.MinInt), ratio(math.MaxInt, math.MaxInt), ratio(math.MinInt, math.MinInt), ratio(api.MaxClock, 1000),
		whole(math.MaxInt), whole(math.MinInt), ratio(math.MaxInt, 2), ratio(math.MinInt, 3), ratio(math.MinInt, api.MaxPlace-1),
	}
}

func TestWhereTimes(t *testing.T) {
	for _, at := range append(badTimes(), whole(api.MaxClock+1), whole(-api.MaxClock-1), ratio(api.MaxClock+1, 2)) {
		place, e := forming.Where(100, 0, chart(), at)
		if e != api.ErrArg || place != (api.Ratio{}) {
			t.Errorf("%v: got %v, %v", at, place, e)
		}
	}
	for _, at := range []api.Ratio{whole(0), whole(api.MaxClock), whole(-api.MaxClock), ratio(1, api.MaxPlace), ratio(-999999999, api.MaxPlace), ratio(999999999, 2)} {
		_, e := forming.Where(100, 0, chart(), at)
		equal(t, "time", e, api.OK)
	}
}

func TestStretches(t *testing.T) {
	half := func(a, b, c, d int) api.Stretch { return api.Stretch{From: ratio(a, b), To: ratio(c, d)} }
	for what, x := range map[string]struct {
		cycle  int
		motion []api.Knot
		s      api.Span
		want   []api.Stretch
	}{
		"example":            {100, chart(), span(50, 100), ticks(10, 70)},
		"two":                {100, chart(), span(0, 0), ticks(0, 0, 80, 100)},
		"all":                {100, chart(), span(0, 100), ticks(0, 100)},
		"wide":               {100, chart(), span(-api.MaxPlace, 2*api.MaxPlace), ticks(0, 100)},
		"through":            {100, chart(), span(20, 50), ticks(4, 10, 70, 76)},
		"top":                {100, chart(), span(100, 100), ticks(20, 60)},
		"above":              {100, chart(), span(101, 200), nil},
		"below":              {100, chart(), span(-5, -1), nil},
		"no number":          {100, chart(), span(51, 50), nil},
		"no number at all":   {100, chart(), span(2*api.MaxPlace, -api.MaxPlace), nil},
		"home":               {100, nil, span(0, 5), ticks(0, 100)},
		"not at home":        {100, nil, span(1, 5), nil},
		"no number, at home": {100, nil, span(1, 0), nil},
		"one knot":           {7, knots(0, 5), span(5, 5), ticks(0, 7)},
		"touch":              {10, knots(0, 0, 5, 10), span(10, 99), ticks(5, 5)},
		"touch from above":   {10, knots(0, 20, 5, 10), span(0, 10), ticks(5, 5)},
		"touch at the ends":  {10, knots(0, 9, 5, 3), span(9, 12), ticks(0, 0, 10, 10)},
		"pass one place":     {10, knots(0, 0, 4, 10, 8, 0), span(5, 5), ticks(2, 2, 6, 6)},
		"parts of ticks":     {10, knots(0, 0, 3, 7), span(2, 4), []api.Stretch{half(6, 7, 12, 7), half(6, 1, 8, 1)}},
		"past a knot inside": {10, knots(0, 0, 2, 4, 6, 6, 8, 4), span(4, 6), ticks(2, 8)},
		"many legs":          {10, knots(0, 0, 1, 9, 3, 0, 6, 9, 7, 8), span(8, 9), []api.Stretch{half(8, 9, 11, 9), half(17, 3, 7, 1)}},
	} {
		got, e := forming.Stretches(x.cycle, 0, x.motion, x.s)
		equal(t, what+": error", e, api.OK)
		same(t, what, got, x.want)
	}
	for _, s := range []api.Span{span(-api.MaxPlace-1, 0), span(0, -api.MaxPlace-1), span(2*api.MaxPlace+1, 0), span(0, 2*api.MaxPlace+1), span(math.MinInt, math.MaxInt)} {
		got, e := forming.Stretches(100, 0, chart(), s)
		if e != api.ErrArg || len(got) != 0 {
			t.Errorf("%v: got %v, %v", s, got, e)
		}
	}
}

// someBigMotion is a motion with numbers of any size.
func someBigMotion(r *rand.Rand) (cycle, home int, motion []api.Knot, s api.Span) {
	most := []int{3, 20, api.MaxPlace}[r.Intn(3)]
	place := func() int { return r.Intn(most + 1) }
	cycle = []int{1, 3, 17, 100, api.MaxCycle}[r.Intn(5)]
	motion = someMotion(r, cycle, []int{4, api.MaxKnots}[r.Intn(2)], place)
	low := place()
	return cycle, place(), motion, span(low, low+r.Intn(most+1)*r.Intn(2)-r.Intn(2))
}

// TestAllOfIt: the position at a time is in a span just if the time is in a stretch, in its cycle (P4.4), and stretches are as long as can be (P4.1).
func TestAllOfIt(t *testing.T) {
	r := rand.New(rand.NewSource(1))
	for range 1500 {
		cycle, home, motion, s := someBigMotion(r)
		all, e := forming.Stretches(cycle, home, motion, s)
		equal(t, "error", e, api.OK)
		times := []*big.Rat{rat(whole(0)), rat(whole(cycle))}
		for range 20 {
			den := 1 + r.Intn([]int{1, 9, 10000}[r.Intn(3)])
			times = append(times, rat(ratio(r.Intn(cycle*den+1), den)))
		}
		for _, k := range motion {
			times = append(times, rat(whole(k.At)))
		}
		for i, x := range all {
			times = append(times, rat(x.From), rat(x.To))
			if !(0 <= x.From.Num && rat(x.From).Cmp(rat(x.To)) <= 0 && x.To.Num <= cycle*x.To.Den) {
				t.Fatal("no stretch", x)
			}
			if i > 0 {
				times = append(times, new(big.Rat).Quo(new(big.Rat).Add(rat(all[i-1].To), rat(x.From)), big.NewRat(2, 1)))
				if rat(all[i-1].To).Cmp(rat(x.From)) >= 0 {
					t.Fatal("not in order", all)
				}
			}
			if fromRat(rat(x.From)) != x.From || fromRat(rat(x.To)) != x.To {
				t.Fatal("not in lowest terms", x)
			}
		}
		for _, at := range times {
			if inSpan(position(cycle, home, motion, at), s) != inStretch(at, all) {
				t.Fatal(cycle, home, motion, s, all, at)
			}
		}
		betweenStretches(t, cycle, home, motion, s, all)
	}
}

// betweenStretches looks for a time between two neighbours at which the motion is not in the span: at the knots, and halfway from an end to the knot that is next.
func betweenStretches(t *testing.T, cycle, home int, motion []api.Knot, s api.Span, all []api.Stretch) {
	t.Helper()
	for i := 1; i < len(all); i++ {
		from, to := rat(all[i-1].To), rat(all[i].From)
		marks := []*big.Rat{from}
		for _, k := range motion {
			if at := rat(whole(k.At)); at.Cmp(from) > 0 && at.Cmp(to) < 0 {
				marks = append(marks, at)
			}
		}
		marks = append(marks, to)
		for j := 1; j < len(marks); j++ {
			half := new(big.Rat).Add(marks[j-1], marks[j])
			half.Quo(half, big.NewRat(2, 1))
			if inSpan(position(cycle, home, motion, half), s) {
				t.Fatal("in the span between stretches", motion, s, all)
			}
		}
	}
}

// TestWhereAlike: Where says the same as the chapter, in all cycles (P4.1).
func TestWhereAlike(t *testing.T) {
	r := rand.New(rand.NewSource(2))
	for range 3000 {
		cycle, home, motion, _ := someBigMotion(r)
		at := rat(ratio(r.Intn(2*api.MaxClock+1)-api.MaxClock, 1+r.Intn([]int{1, 100, api.MaxPlace}[r.Intn(3)])))
		if r.Intn(2) == 0 {
			at = rat(ratio(r.Intn(8*cycle)-4*cycle, 1+r.Intn(9)))
		}
		got, e := forming.Where(cycle, home, motion, fromRat(at))
		equal(t, "error", e, api.OK)
		equal(t, "position of "+strconv.Itoa(cycle), got, fromRat(position(cycle, home, motion, at)))
	}
}

func TestGap(t *testing.T) {
	in := ticks(10, 70)
	for what, x := range map[string]struct {
		a, b  []api.Stretch
		shift int
		want  api.Ratio
		none  bool
	}{
		"example":             {in, ticks(80, 100), 0, whole(10), false},
		"example, shifted":    {in, ticks(80, 100), 15, whole(0), false},
		"the other way":       {ticks(80, 100), in, 0, whole(10), false},
		"touch":               {in, ticks(80, 100), 10, whole(0), false},
		"nearly":              {in, ticks(80, 100), 9, whole(1), false},
		"over the end":        {ticks(1, 2), ticks(97, 99), 0, whole(2), false},
		"over the end, back":  {ticks(97, 99), ticks(1, 2), 0, whole(2), false},
		"the end is the next": {ticks(100, 100), ticks(0, 0), 0, whole(0), false},
		"the next is the end": {ticks(0, 0), ticks(100, 100), 0, whole(0), false},
		"far":                 {ticks(0, 0), ticks(100, 100), 99, whole(1), false},
		"late":                {ticks(0, 0), ticks(99, 99), 99, whole(2), false},
		"half way":            {ticks(0, 0), ticks(0, 0), 50, whole(50), false},
		"all":                 {ticks(0, 100), ticks(50, 50), 17, whole(0), false},
		"closest of some":     {ticks(0, 1, 40, 41), ticks(20, 21, 45, 46, 70, 71), 0, whole(4), false},
		"in no order":         {ticks(40, 41, 0, 1, 0, 41), ticks(70, 71, 45, 46), 0, whole(4), false},
		"parts":               {[]api.Stretch{{From: ratio(1, 3), To: ratio(1, 2)}}, []api.Stretch{{From: ratio(5, 7), To: whole(1)}}, 0, ratio(3, 14), false},
		"none of a":           {nil, in, 3, whole(0), true},
		"none of b":           {in, ticks(), 3, whole(0), true},
		"none at all":         {nil, nil, 99, whole(0), true},
	} {
		got, none, e := forming.Gap(100, x.a, x.b, x.shift)
		equal(t, what+": error", e, api.OK)
		equal(t, what, got, x.want)
		equal(t, what+": none", none, x.none)
	}
}

// TestGapFine: two distances are told apart whose products have more than 64 bits (P4.1).
func TestGapFine(t *testing.T) {
	point := func(num, den int) api.Stretch { return api.Stretch{From: ratio(num, den), To: ratio(num, den)} }
	a := []api.Stretch{point(1, 999961)}
	near, far := point(1700*999979+1, 999979), point(1700*999953+1, 999953) // by 2.6 in 10^11
	want := fromRat(new(big.Rat).Sub(rat(near.From), rat(a[0].To)))
	for _, b := range [][]api.Stretch{{near, far}, {far, near}} {
		got, _, e := forming.Gap(3600, a, b, 0)
		equal(t, "error", e, api.OK)
		equal(t, "gap", got, want)
		got, _, e = forming.Gap(3600, b, a, 0)
		equal(t, "error", e, api.OK)
		equal(t, "gap, the other way", got, want)
	}
}

func TestGapErrors(t *testing.T) {
	good := ticks(10, 70)
	fails := func(what string, cycle int, a, b []api.Stretch, shift int) {
		t.Helper()
		gap, none, e := forming.Gap(cycle, a, b, shift)
		if !onlyError([]any{gap, none, e}, api.ErrArg) {
			t.Errorf("%s: got %v, %v, %v", what, gap, none, e)
		}
	}
	for _, cycle := range []int{0, -1, 69, api.MaxCycle + 1, math.MaxInt, math.MinInt} {
		fails("cycle", cycle, good, good, 0)
	}
	for _, shift := range []int{-1, 100, 101, math.MaxInt, math.MinInt} {
		fails("shift", 100, good, good, shift)
		fails("shift", 100, nil, nil, shift)
	}
	bad := []api.Stretch{{From: whole(-1), To: whole(3)}, {From: ratio(-1, 2), To: whole(3)}, {From: whole(3), To: whole(101)}, {From: whole(3), To: ratio(201, 2)}, {From: whole(4), To: whole(3)}, {From: ratio(1, 2), To: ratio(1, 3)}, {From: whole(101), To: whole(102)}}
	for _, at := range badTimes() {
		bad = append(bad, api.Stretch{From: at, To: whole(100)}, api.Stretch{From: whole(0), To: at})
	}
	for _, x := range bad {
		list := append(ticks(10, 70), x)
		fails("a", 100, list, good, 0)
		fails("b", 100, good, list, 0)
		fails("b, none of a", 100, nil, list, 0)
		fails("a, none of b", 100, list, nil, 0)
	}
	_, _, e := forming.Gap(api.MaxCycle, ticks(0, api.MaxCycle), []api.Stretch{{From: ratio(1, api.MaxPlace), To: ratio(api.MaxCycle*999999-1, 999999)}}, api.MaxCycle-1)
	equal(t, "ends", e, api.OK)
}

// someStretches are stretches that may be, in any order.
func someStretches(r *rand.Rand, cycle int) []api.Stretch {
	var all []api.Stretch
	for range r.Intn(4) {
		time := func() *big.Rat {
			den := 1 + r.Intn([]int{1, 6, api.MaxPlace}[r.Intn(3)])
			return rat(ratio(r.Intn(cycle*den+1), den))
		}
		from, to := time(), time()
		if r.Intn(3) == 0 {
			to = from
		}
		if from.Cmp(to) > 0 {
			from, to = to, from
		}
		all = append(all, api.Stretch{From: fromRat(from), To: fromRat(to)})
	}
	return all
}

// gapOf is the gap of two lists as the chapter says it; nil if there is none.
func gapOf(cycle int, a, b []api.Stretch, shift int) *big.Rat {
	var least *big.Rat
	for _, x := range a {
		for _, y := range b {
			for turn := -4; turn <= 4; turn++ {
				later := rat(whole(shift + turn*cycle))
				from, to := new(big.Rat).Add(rat(y.From), later), new(big.Rat).Add(rat(y.To), later)
				d := new(big.Rat)
				if from.Cmp(rat(x.To)) > 0 {
					d.Sub(from, rat(x.To))
				} else if to.Cmp(rat(x.From)) < 0 {
					d.Sub(rat(x.From), to)
				}
				if least == nil || d.Cmp(least) < 0 {
					least = d
				}
			}
		}
	}
	return least
}

// TestGapLeast: the gap is the least difference of all, whatever the lists are (P4.1).
func TestGapLeast(t *testing.T) {
	r := rand.New(rand.NewSource(3))
	for range 4000 {
		cycle := []int{1, 2, 10, 100, api.MaxCycle}[r.Intn(5)]
		a, b, shift := someStretches(r, cycle), someStretches(r, cycle), r.Intn(cycle)
		got, none, e := forming.Gap(cycle, a, b, shift)
		equal(t, "error", e, api.OK)
		want := gapOf(cycle, a, b, shift)
		equal(t, "none", none, want == nil)
		if want == nil {
			want = new(big.Rat)
		}
		equal(t, "gap", got, fromRat(want))
	}
}
