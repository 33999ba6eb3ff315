package inspect_test

import (
	"math"
	"math/big"
	"strconv"
	"testing"

	"cullet/api"
	"cullet/inspect"
)

// judges checks the verdict on a bottle.
func judges(t *testing.T, c api.Checker, l []api.Run, entry int, want judgement) {
	t.Helper()
	v, class, e := inspect.Judge(c, l, entry)
	fine(t, "entry "+strconv.Itoa(entry), judgement{v, class}, e, want)
}

// sorts checks lots.
func sorts(t *testing.T, c api.Checker, l []api.Run, clear, blocked, open []int) {
	t.Helper()
	gotClear, gotBlocked, gotOpen, e := inspect.Lots(c, l)
	list(t, "clear", gotClear, e, clear)
	list(t, "blocked", gotBlocked, e, blocked)
	list(t, "open", gotOpen, e, open)
}

func TestExample(t *testing.T) {
	c, l := eye(), eyeLog()
	judges(t, c, l, 1, judgement{api.VeClear, -1})
	judges(t, c, l, 3, judgement{api.VeSuspect, 0})
	judges(t, c, l, 5, judgement{api.VeSuspect, 0})
	blocked, e := inspect.Blocked(c, l)
	list(t, "blocked", blocked, e, []int{3, 5})
	worst, bottles, e := inspect.Missed(c, l, 0)
	fine(t, "worst", worst, e, api.Ratio{Num: 1, Den: 50})
	equal(t, "bottles", bottles, 1)
	sorts(t, c, l, []int{7}, []int{8, 9}, nil)
}

// TestTrusted: challenges before and behind a bottle, found or missed, in time or late (P7.2).
func TestTrusted(t *testing.T) {
	b := bottle(50, 1, 0, false)
	end := func(time int) api.Run { return bottle(time, 2, 0, true) }
	for what, x := range map[string]struct {
		l    []api.Run
		at   int
		want api.Trust
	}{
		"nothing":                     {[]api.Run{b}, 0, api.TrBad},
		"none before":                 {[]api.Run{b, sample(60, 0, 0, true)}, 0, api.TrBad},
		"found":                       {[]api.Run{sample(40, 0, 0, true), b}, 1, api.TrOpen},
		"missed":                      {[]api.Run{sample(40, 0, 0, false), b}, 1, api.TrBad},
		"found and found":             {[]api.Run{sample(40, 0, 0, true), b, sample(60, 0, 0, true)}, 1, api.TrGood},
		"found and missed":            {[]api.Run{sample(40, 0, 0, true), b, sample(60, 0, 0, false)}, 1, api.TrBad},
		"missed and found":            {[]api.Run{sample(40, 0, 0, false), b, sample(60, 0, 0, true)}, 1, api.TrBad},
		"missed and missed":           {[]api.Run{sample(40, 0, 0, false), b, sample(60, 0, 0, false)}, 1, api.TrBad},
		"the last one before":         {[]api.Run{sample(30, 0, 0, false), sample(40, 0, 0, true), b, sample(60, 0, 0, true)}, 2, api.TrGood},
		"the last one before, missed": {[]api.Run{sample(30, 0, 0, true), sample(40, 0, 0, false), b, sample(60, 0, 0, true)}, 2, api.TrBad},
		"the first one behind":        {[]api.Run{sample(40, 0, 0, true), b, sample(60, 0, 0, true), sample(70, 0, 0, false)}, 1, api.TrGood},
		"the first behind, missed":    {[]api.Run{sample(40, 0, 0, true), b, sample(60, 0, 0, false), sample(70, 0, 0, true)}, 1, api.TrBad},
		"all at once":                 {[]api.Run{sample(50, 0, 0, true), b, sample(50, 0, 0, true)}, 1, api.TrGood},
		"behind at once":              {[]api.Run{b, sample(50, 0, 0, true)}, 0, api.TrBad},
		"before at once, missed":      {[]api.Run{sample(50, 0, 0, true), sample(50, 0, 0, false), b}, 2, api.TrBad},
		"just in time":                {[]api.Run{sample(40, 0, 0, true), b, sample(140, 0, 0, true)}, 1, api.TrGood},
		"too late":                    {[]api.Run{sample(40, 0, 0, true), b, sample(141, 0, 0, true)}, 1, api.TrBad},
		"too late for the first":      {[]api.Run{sample(39, 0, 0, true), b, sample(140, 0, 0, true)}, 1, api.TrBad},
		"in time, the log goes on":    {[]api.Run{sample(40, 0, 0, true), b, sample(60, 0, 0, true), end(900)}, 1, api.TrGood},
		"the log ends in time":        {[]api.Run{sample(40, 0, 0, true), b, end(140)}, 1, api.TrOpen},
		"the log ends too late":       {[]api.Run{sample(40, 0, 0, true), b, end(141)}, 1, api.TrBad},
		"the bottle comes too late":   {[]api.Run{sample(40, 0, 0, true), bottle(141, 1, 0, false)}, 1, api.TrBad},
		"the last bottle in time":     {[]api.Run{sample(40, 0, 0, true), bottle(140, 1, 0, false)}, 1, api.TrOpen},
		"of a bottle that was out":    {[]api.Run{sample(40, 0, 0, true), bottle(50, 1, 0, true), sample(60, 0, 0, true)}, 1, api.TrGood},
		"longest":                     {[]api.Run{sample(0, 0, 0, true), b, sample(api.MaxClock, 0, 0, true)}, 1, api.TrBad},
	} {
		trust, e := inspect.Trusted(eye(), x.l, 0, 0, x.at)
		fine(t, what, trust, e, x.want)
	}
	c := eye()
	c.Every = api.MaxClock
	trust, e := inspect.Trusted(c, []api.Run{sample(0, 0, 0, true), b, sample(api.MaxClock, 0, 0, true)}, 0, 0, 1)
	fine(t, "all of the time", trust, e, api.TrGood)
}

// TestTrustedOwn: challenges of other stations, or with other classes, do not count (P7.2).
func TestTrustedOwn(t *testing.T) {
	for _, x := range []struct {
		stand, class, entry int
		want                api.Trust
	}{
		{eyes, crack, 3, api.TrGood}, {eyes, stone, 3, api.TrGood}, {ray, stone, 3, api.TrGood}, {ray, tint, 3, api.TrBad}, {tap, crack, 3, api.TrBad}, {tap, stone, 3, api.TrBad},
		{touch, crack, 3, api.TrBad}, {touch, tint, 3, api.TrBad}, {ray, crack, 3, api.TrBad}, {eyes, tint, 3, api.TrBad},
		{eyes, crack, 4, api.TrGood}, {eyes, crack, 8, api.TrBad}, {eyes, stone, 8, api.TrOpen}, {ray, stone, 8, api.TrGood}, {eyes, crack, 13, api.TrGood}, {eyes, stone, 13, api.TrOpen}, {ray, stone, 13, api.TrGood}, {eyes, crack, 15, api.TrOpen},
	} {
		trust, e := inspect.Trusted(hall(), hallLog(), x.stand, x.class, x.entry)
		fine(t, strconv.Itoa(x.stand)+" "+strconv.Itoa(x.class)+" "+strconv.Itoa(x.entry), trust, e, x.want)
	}
}

// wrongBottles are the errors of an entry that shall be a bottle.
func wrongBottles() []wrong {
	var all []wrong
	for _, n := range []int{-1, 17, math.MinInt, math.MaxInt} {
		all = append(all, wrong{api.ErrNone, func(c *call) { c.entry = n }})
	}
	for _, n := range []int{0, 7, 16} {
		all = append(all, wrong{api.ErrArg, func(c *call) { c.entry = n }})
	}
	return all
}

func wrongStands() []wrong {
	var all []wrong
	for _, n := range []int{-1, 4, math.MinInt, math.MaxInt} {
		all = append(all, wrong{api.ErrNone, func(c *call) { c.stand = n }})
	}
	return all
}

func wrongClasses() []wrong {
	var all []wrong
	for _, n := range []int{-1, 3, math.MinInt, math.MaxInt} {
		all = append(all, wrong{api.ErrNone, func(c *call) { c.class = n }})
	}
	return all
}

func TestTrustErrors(t *testing.T) {
	all := append(wrongLogs(), wrongStands()...)
	all = append(all, wrongClasses()...)
	inOrder(t, "Trusted", append(all, wrongBottles()...), func(c call) []any {
		trust, e := inspect.Trusted(c.c, c.l, c.stand, c.class, c.entry)
		return []any{trust, e}
	})
	inOrder(t, "Judge", append(wrongLogs(), wrongBottles()...), call.judged)
	inOrder(t, "Missed", append(wrongLogs(), wrongClasses()...), call.missed)
	// an empty log has no entry, a line of inspection without classes no class
	_, _, e := inspect.Judge(hall(), nil, 0)
	equal(t, "no entry", e, api.ErrNone)
	_, _, e = inspect.Missed(api.Checker{Every: 1}, nil, 0)
	equal(t, "no class", e, api.ErrNone)
}

func TestJudge(t *testing.T) {
	for entry, want := range hallVerdicts() {
		judges(t, hall(), hallLog(), entry, want)
	}
	blocked, e := inspect.Blocked(hall(), hallLog())
	list(t, "blocked", blocked, e, []int{8, 10})
	sorts(t, hall(), hallLog(), []int{7}, []int{8}, []int{6})
	// a class that makes it suspect comes ahead of one before it that leaves it open
	l := append(hallLog()[:3], bottle(20, 7, 11, false), sample(30, ray, stone, false))
	judges(t, hall(), l, 3, judgement{api.VeSuspect, stone})
	// without a log of challenges only classes count that need a station
	judges(t, hall(), []api.Run{bottle(5, 1, 0, false)}, 0, judgement{api.VeSuspect, crack})
	judges(t, hall(), []api.Run{bottle(5, 1, 0, true)}, 0, judgement{api.VeOut, -1})
	judges(t, api.Checker{Every: 1}, []api.Run{bottle(5, 1, 0, false)}, 0, judgement{api.VeClear, -1})
	judges(t, api.Checker{Every: 1, Flaws: []api.Flaw{flaw("a", 0), flaw("b", 1)}}, []api.Run{bottle(5, 1, 0, false)}, 0, judgement{api.VeSuspect, 1})
	blocked, e = inspect.Blocked(hall(), nil)
	list(t, "none blocked", blocked, e, nil)
}

// TestNeed: so many stations must be good, or may still be, as a class needs (P7.2).
func TestNeed(t *testing.T) {
	// of four stations the first two are good at the bottle, the third one is open, and the last one is bad
	l := []api.Run{sample(1, 0, 0, true), sample(1, 1, 0, true), sample(1, 2, 0, true), sample(1, 3, 0, false), bottle(2, 5, 0, false), sample(3, 0, 0, true), sample(3, 1, 0, true)}
	for need, want := range []judgement{{api.VeClear, -1}, {api.VeClear, -1}, {api.VeClear, -1}, {api.VeOpen, 0}, {api.VeSuspect, 0}} {
		c := api.Checker{Every: 9, Flaws: []api.Flaw{flaw("crack", need)}}
		for _, name := range []string{"a", "b", "c", "d"} {
			c.Stands = append(c.Stands, stand(name, claim(0, 1, 3)))
		}
		judges(t, c, l, 4, want)
		worst, bottles, e := inspect.Missed(c, l, 0)
		if want.verdict == api.VeClear {
			fine(t, "worst", worst, e, api.Ratio{Num: 1, Den: 9})
			equal(t, "bottles", bottles, 1)
		} else {
			fine(t, "worst", worst, e, api.Ratio{Num: 0, Den: 1})
			equal(t, "bottles", bottles, 0)
		}
	}
}

func TestMissed(t *testing.T) {
	for class, want := range []api.Ratio{{Num: 1, Den: 50}, {Num: 1, Den: 20}, {Num: 1, Den: 1}} {
		worst, bottles, e := inspect.Missed(hall(), hallLog(), class)
		fine(t, "class "+strconv.Itoa(class), worst, e, want)
		equal(t, "bottles", bottles, 1)
	}
	// none is clear: none at all, none that was not rejected, none that stations vouch for
	for _, l := range [][]api.Run{nil, {bottle(5, 1, 0, true)}, {bottle(5, 1, 0, false)}, hallLog()[:4]} {
		worst, bottles, e := inspect.Missed(hall(), l, crack)
		fine(t, "none is clear", worst, e, api.Ratio{Num: 0, Den: 1})
		equal(t, "bottles", bottles, 0)
	}
	// the greatest share is that of the bottle with the fewest good stations
	c := api.Checker{Every: 9, Flaws: []api.Flaw{flaw("crack", 1)}, Stands: []api.Stand{stand("a", claim(0, 2, 6)), stand("b", claim(0, 3, 4))}}
	both := []api.Run{sample(1, 0, 0, true), sample(1, 1, 0, true), bottle(2, 5, 0, false), bottle(2, 5, 0, true), sample(3, 0, 0, true), sample(3, 1, 0, true)}
	first := append(both[:6:6], bottle(4, 5, 0, false), sample(5, 0, 0, true), sample(5, 1, 0, false))
	second := append(both[:6:6], bottle(4, 5, 0, false), sample(5, 0, 0, false), sample(5, 1, 0, true))
	for _, x := range []struct {
		l        []api.Run
		num, den int
		bottles  int
	}{{both, 1, 4, 1}, {first, 1, 3, 2}, {second, 3, 4, 2}} {
		worst, bottles, e := inspect.Missed(c, x.l, 0)
		fine(t, "worst", worst, e, api.Ratio{Num: x.num, Den: x.den})
		equal(t, "bottles", bottles, x.bottles)
	}
	// a station that misses nothing leaves nothing
	c.Stands[0].Claims[0].Miss = 0
	worst, _, e := inspect.Missed(c, first, 0)
	fine(t, "nothing", worst, e, api.Ratio{Num: 0, Den: 1})
	// one that claims to miss all leaves all
	c.Stands[0].Claims[0] = claim(0, 1000, 1000)
	worst, _, e = inspect.Missed(c, first, 0)
	fine(t, "all", worst, e, api.Ratio{Num: 1, Den: 1})
}

// TestMissedFine: shares that are close to each other are told apart (P7.2).
func TestMissedFine(t *testing.T) {
	c := api.Checker{Every: 9, Flaws: []api.Flaw{flaw("crack", 3)}}
	for i, miss := range []int{997, 991, 983, 977} {
		c.Stands = append(c.Stands, stand(string(rune('a'+i)), claim(0, miss, 1000-i)))
	}
	var l []api.Run
	for bad := range 5 { // at the last bottle none is bad
		for i := range 4 {
			l = append(l, sample(bad, i, 0, true))
		}
		l = append(l, bottle(bad, 1, 0, false))
		for i := range 4 {
			l = append(l, sample(bad, i, 0, i != bad))
		}
	}
	for from := range 5 {
		worst, bottles, e := inspect.Missed(c, l[9*from:], 0)
		want, count := share(c, l[9*from:], 0)
		fine(t, "bottles", bottles, e, count)
		equal(t, "count", bottles, 5-from)
		if big.NewRat(int64(worst.Num), int64(worst.Den)).Cmp(want) != 0 || want.Denom().Int64() != int64(worst.Den) {
			t.Error(from, worst, want)
		}
	}
}

// TestLots: rejected bottles do not count, one suspect bottle blocks a lot, one open one leaves it open (P7.2).
func TestLots(t *testing.T) {
	head := []api.Run{sample(1, 0, 0, true)}
	good := func(lot int) []api.Run {
		return []api.Run{sample(2, 0, 0, true), bottle(2, lot, 0, false), sample(2, 0, 0, true)}
	}
	bad := func(lot int) []api.Run {
		return []api.Run{sample(2, 0, 0, false), bottle(2, lot, 0, false), sample(2, 0, 0, true)}
	}
	open := func(lot int) []api.Run { return []api.Run{sample(2, 0, 0, true), bottle(2, lot, 0, false)} }
	log := func(parts ...[]api.Run) []api.Run {
		l := head[:1:1]
		for _, x := range parts {
			l = append(l, x...)
		}
		return l
	}
	out := []api.Run{bottle(2, 9, 0, true), bottle(2, 3, 0, true)}
	sorts(t, eye(), nil, nil, nil, nil)
	sorts(t, eye(), log(out), nil, nil, nil)
	sorts(t, eye(), log(good(3), good(0), good(api.MaxLotNo), good(3)), []int{0, 3, api.MaxLotNo}, nil, nil)
	sorts(t, eye(), log(good(3), out, bad(3), good(2), good(3)), []int{2}, []int{3}, nil)
	sorts(t, eye(), log(good(3), open(3)), nil, nil, []int{3})
	sorts(t, eye(), log(good(3), bad(3), open(3)), nil, []int{3}, nil)
	sorts(t, eye(), log(good(5), bad(9), bad(8), good(4), open(1)), []int{4, 5}, []int{8, 9}, []int{1})
	sorts(t, eye(), []api.Run{sample(1, 0, 0, true), bottle(1, 9, 0, false), bottle(2, 10, 0, false), bottle(3, 2, 0, false)}, nil, nil, []int{2, 9, 10})
}

// TestAlike: all of it says the same as the chapter, entry by entry (P7.2).
func TestAlike(t *testing.T) {
	r := newRand(72)
	verdicts := map[api.Verdict]int{}
	trusts := map[api.Trust]int{}
	for range 3000 {
		c := someChecker(r)
		l := someLog(r, c)
		var blocked []int
		for entry, x := range l {
			if x.Kind != api.RuBottle {
				continue
			}
			want := judged(c, l, entry)
			judges(t, c, l, entry, want)
			verdicts[want.verdict]++
			if want.verdict == api.VeSuspect {
				blocked = append(blocked, entry)
			}
			for stand := range c.Stands {
				for class := range c.Flaws {
					want := trusted(c, l, stand, class, entry)
					trust, e := inspect.Trusted(c, l, stand, class, entry)
					fine(t, "trust", trust, e, want)
					trusts[want]++
				}
			}
		}
		got, e := inspect.Blocked(c, l)
		list(t, "blocked", got, e, blocked)
		for class := range c.Flaws {
			worst, bottles, e := inspect.Missed(c, l, class)
			want, count := share(c, l, class)
			fine(t, "bottles", bottles, e, count)
			equal(t, "worst", worst, api.Ratio{Num: int(want.Num().Int64()), Den: int(want.Denom().Int64())})
		}
		clear, blocked, open := lotsOf(c, l, 5)
		sorts(t, c, l, clear, blocked, open)
	}
	if len(verdicts) != 4 || len(trusts) != 3 || min(verdicts[api.VeOpen], verdicts[api.VeClear], verdicts[api.VeSuspect], trusts[api.TrOpen], trusts[api.TrGood]) < 500 {
		t.Fatal("the logs are not of all kinds", verdicts, trusts)
	}
}
