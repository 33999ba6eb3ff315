package inspect_test

import (
	"math/rand"
	"slices"
	"testing"

	"cullet/api"
	"cullet/inspect"
)

// verdicts are what is known of all bottles of a log.
func verdicts(t *testing.T, c api.Checker, l []api.Run) map[int]judgement {
	t.Helper()
	all := map[int]judgement{}
	for entry, x := range l {
		if x.Kind == api.RuBottle {
			v, class, e := inspect.Judge(c, l, entry)
			equal(t, "error", e, api.OK)
			all[entry] = judgement{v, class}
		}
	}
	return all
}

// around are the challenges of the same station and class last before a challenge, and first behind it; -1, or the length of the log, if there is none.
func around(l []api.Run, at int) (before, behind int) {
	isLike := func(i int) bool {
		return l[i].Kind == api.RuChallenge && l[i].Stand == l[at].Stand && l[i].Class == l[at].Class
	}
	before, behind = at-1, at+1
	for before >= 0 && !isLike(before) {
		before--
	}
	for behind < len(l) && !isLike(behind) {
		behind++
	}
	return before, behind
}

// TestBlockedExactly: with the result of a challenge no verdicts change but those on bottles between the challenge before it and the one behind it; if it is missed, these are suspect, if all stations are needed (P7.4, P0.2).
func TestBlockedExactly(t *testing.T) {
	r := newRand(74)
	changed, blocked := 0, 0
	for range 600 {
		c := someChecker(r)
		if r.Intn(2) > 0 {
			needAll(&c)
		}
		l := someLog(r, c)
		first := verdicts(t, c, l)
		for at, x := range l {
			if x.Kind != api.RuChallenge {
				continue
			}
			before, behind := around(l, at)
			other := slices.Clone(l)
			other[at].Out = !x.Out
			second := verdicts(t, c, other)
			for entry, v := range first {
				within := before < entry && entry < behind
				if v != second[entry] {
					changed++
					equal(t, "changed between", within, true)
				}
				missed := second
				if x.Out == false {
					missed = first
				}
				if within && !l[entry].Out && c.Flaws[x.Class].Need >= stands(c, x.Class) {
					blocked++
					equal(t, "suspect", missed[entry].verdict, api.VeSuspect)
				}
			}
		}
	}
	if changed < 1000 || blocked < 1000 {
		t.Fatal("too few bottles", changed, blocked)
	}
}

// stands is how many stations claim something for a class.
func stands(c api.Checker, class int) int {
	count := 0
	for _, x := range claimed(c) {
		if x[1] == class {
			count++
		}
	}
	return count
}

// needAll has all classes need all stations that claim something for them.
func needAll(c *api.Checker) {
	for class := range c.Flaws {
		c.Flaws[class].Need = stands(*c, class)
	}
}

// TestClearStays: with more entries behind a log no clear bottle becomes suspect or open, no suspect one clear, and none that is open is rejected (P7.5).
func TestClearStays(t *testing.T) {
	r := newRand(75)
	clear, suspect, settled := 0, 0, 0
	for range 1200 {
		c := someChecker(r)
		l := someLog(r, c)
		before := map[int]judgement{}
		for count := range len(l) + 1 {
			now := verdicts(t, c, l[:count])
			for entry, x := range before {
				switch x.verdict {
				case api.VeClear:
					clear++
					equal(t, "clear", now[entry], x)
				case api.VeSuspect:
					suspect++
					equal(t, "suspect", now[entry].verdict, api.VeSuspect)
				case api.VeOut:
					equal(t, "out", now[entry], x)
				default:
					if now[entry].verdict != api.VeOpen {
						settled++
					}
					equal(t, "open", now[entry].verdict != api.VeOut, true)
				}
			}
			before = now
		}
	}
	if clear < 5000 || suspect < 5000 || settled < 500 {
		t.Fatal("too few bottles", clear, suspect, settled)
	}
}

// shift is stations that break and are challenged, and bottles that pass by them.
type shift struct {
	c      api.Checker
	broken map[[2]int]bool // stations that find nothing of a class until they are challenged with it
	l      []api.Run
	flawed map[int]int // classes of the flaws of bottles
}

// shows has a sample shown to a station.
func (s *shift) shows(t int, of [2]int) {
	s.l = append(s.l, sample(t, of[0], of[1], !s.broken[of]))
	delete(s.broken, of)
}

// pass has a bottle inspected, with a flaw of a class, or without one (-1). It is rejected if a station finds it.
func (s *shift) pass(t, lot, class int) {
	out := false
	for _, of := range claimed(s.c) {
		out = out || of[1] == class && !s.broken[of]
	}
	if class >= 0 {
		s.flawed[len(s.l)] = class
	}
	s.l = append(s.l, bottle(t, lot, 0, out))
}

func someShift(r *rand.Rand) *shift {
	s := &shift{c: someChecker(r), broken: map[[2]int]bool{}, flawed: map[int]int{}}
	pairs := claimed(s.c)
	t := 0
	for range 60 {
		switch n := r.Intn(10); {
		case n < 4:
			s.pass(t, r.Intn(9), r.Intn(len(s.c.Flaws)+1)-1)
		case len(pairs) == 0:
		case n < 5:
			s.broken[pairs[r.Intn(len(pairs))]] = true
		default:
			s.shows(t, pairs[r.Intn(len(pairs))])
		}
		t += r.Intn(2) * r.Intn(3)
	}
	return s
}

// TestNothingLeaves: if stations that work find every flaw of the classes that they claim, and those that break miss the next sample, no bottle with a flaw of a class that needs a station is clear, nor is its lot released (P7.6, P0.3).
func TestNothingLeaves(t *testing.T) {
	r := newRand(76)
	passed, clear := 0, 0
	for range 3000 {
		s := someShift(r)
		free, e := inspect.Release(s.c, s.l, pairShop(), api.Machine{}, nil, nil)
		equal(t, "error", e, api.OK)
		clear += len(free)
		for entry, v := range verdicts(t, s.c, s.l) {
			class, is := s.flawed[entry]
			if !is || s.l[entry].Out || s.c.Flaws[class].Need == 0 {
				continue
			}
			passed++
			if v.verdict == api.VeClear || slices.Contains(free, s.l[entry].Lot) {
				t.Fatal("a flaw has left", s.c, s.l, entry, v, free)
			}
		}
	}
	if passed < 2000 || clear < 2000 {
		t.Fatal("too few bottles", passed, clear)
	}
}

// TestReleased: each lot that is released is clear, and whatever of it was not rejected is vouched for and not held (P0.3).
func TestReleased(t *testing.T) {
	r := newRand(78)
	bottles := 0
	for range 400 {
		c := someWorks(r)
		c.c = someChecker(r)
		c.l = someLog(r, c.c)
		free, e := inspect.Release(c.c, c.l, c.s, c.m, c.w, c.holds)
		clear, _, _, f := inspect.Lots(c.c, c.l)
		stopped, g := inspect.Held(c.c, c.l, c.s, c.m, c.w, c.holds)
		if e != api.OK || f != api.OK || g != api.OK {
			t.Fatal(e, f, g)
		}
		all := verdicts(t, c.c, c.l)
		for _, lot := range free {
			equal(t, "clear", slices.Contains(clear, lot), true)
			for _, entry := range kept(c.l) {
				if c.l[entry].Lot == lot {
					bottles++
					equal(t, "clear and not held", all[entry].verdict == api.VeClear && !slices.Contains(stopped, entry), true)
				}
			}
		}
	}
	if bottles < 300 {
		t.Fatal("too few bottles", bottles)
	}
}
