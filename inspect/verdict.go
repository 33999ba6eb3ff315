package inspect

import (
	"iter"

	"cullet/api"
)

// verdict is what is known of a bottle.
type verdict interface {
	// class is the first class that makes it so, or none.
	class() int
}

type (
	rejected  struct{}
	vouched   struct{}
	suspect   struct{ first int }
	undecided struct{ first int }
)

func (rejected) class() int    { return none }
func (vouched) class() int     { return none }
func (v suspect) class() int   { return v.first }
func (v undecided) class() int { return v.first }

func kindOf(v verdict) api.Verdict {
	switch v.(type) {
	case rejected:
		return api.VeOut
	case vouched:
		return api.VeClear
	case suspect:
		return api.VeSuspect
	}
	return api.VeOpen
}

// verdict returns what is known of a bottle.
func (r record) verdict(bottle int) verdict {
	if r.log[bottle].Out {
		return rejected{}
	}
	waiting := none
	for class, x := range r.Flaws {
		good, open := r.vouching(class, bottle)
		if good+open < x.Need {
			return suspect{class}
		}
		if good < x.Need && waiting == none {
			waiting = class
		}
	}
	if waiting != none {
		return undecided{waiting}
	}
	return vouched{}
}

// verdicts tells all bottles, and what is known of them.
func (r record) verdicts() iter.Seq2[int, api.Verdict] {
	return func(yield func(int, api.Verdict) bool) {
		for entry, x := range r.log {
			if x.Kind == api.RuBottle && !yield(entry, kindOf(r.verdict(entry))) {
				return
			}
		}
	}
}

// Judge returns the verdict on a bottle, and the first class that makes it suspect or open, or -1.
func Judge(c api.Checker, l []api.Run, entry int) (v api.Verdict, class int, e api.Errno) {
	r, e := recordOf(c, l)
	if e != api.OK {
		return 0, 0, e
	}
	if e := r.bottleError(entry); e != api.OK {
		return 0, 0, e
	}
	known := r.verdict(entry)
	return kindOf(known), known.class(), api.OK
}

// Blocked returns the bottles that are suspect.
func Blocked(c api.Checker, l []api.Run) ([]int, api.Errno) {
	r, e := recordOf(c, l)
	if e != api.OK {
		return nil, e
	}
	var all []int
	for entry, v := range r.verdicts() {
		if v == api.VeSuspect {
			all = append(all, entry)
		}
	}
	return all, api.OK
}

// Missed returns the greatest share of bottles with a flaw of a class that may have passed where a clear one did, and how many bottles are clear.
func Missed(c api.Checker, l []api.Run, class int) (worst api.Ratio, bottles int, e api.Errno) {
	r, e := recordOf(c, l)
	if e != api.OK {
		return api.Ratio{}, 0, e
	}
	if !isIndex(class, len(c.Flaws)) {
		return api.Ratio{}, 0, api.ErrNone
	}
	most := 0
	for entry, v := range r.verdicts() {
		if v == api.VeClear {
			bottles++
			most = max(most, r.missed(class, entry))
		}
	}
	return lowest(most, r.flawed(class)), bottles, api.OK
}

// flawed returns of how many bottles with a flaw of a class it is told how many may pass: the same number for all, so that these can be compared.
func (r record) flawed(class int) int {
	all := 1
	for _, x := range r.claims(class) {
		all *= x.Of
	}
	return all
}

// missed returns how many of the flawed bottles may pass with what is known at a bottle: a station that is not good may miss all of them.
func (r record) missed(class, bottle int) int {
	passed := 1
	for stand, x := range r.claims(class) {
		if r.trust(trial{stand, class}, bottle) == api.TrGood {
			passed *= x.Miss
		} else {
			passed *= x.Of
		}
	}
	return passed
}

// lowest returns a quotient in lowest terms.
func lowest(num, den int) api.Ratio {
	a, b := num, den
	for b != 0 {
		a, b = b, a%b
	}
	return api.Ratio{Num: num / a, Den: den / a}
}
