package forming

import (
	"iter"

	"cullet/api"
)

// path is a motion in its cycle, of a mechanism with this home.
type path struct {
	cycle, home int
	motion      []api.Knot
}

// leg is a part of a path in which it moves evenly.
type leg struct{ from, to api.Knot }

// legs tells the legs of a path that may be, from 0 to the cycle.
func (p path) legs() iter.Seq[leg] {
	return func(yield func(leg) bool) {
		last := api.Knot{Place: p.home}
		for i, k := range p.motion {
			if i > 0 && !yield(leg{last, k}) {
				return
			}
			last = k
		}
		first := last
		if len(p.motion) > 0 {
			first = p.motion[0]
		}
		yield(leg{last, api.Knot{At: p.cycle, Place: first.Place}})
	}
}

// at returns the position of a path that may be at any time.
func (p path) at(t api.Ratio) api.Ratio {
	now := modulo(t.Num, p.cycle*t.Den) // times the Den of t
	var here leg
	for here = range p.legs() {
		if now <= here.to.At*t.Den {
			break
		}
	}
	long, way := here.to.At-here.from.At, here.to.Place-here.from.Place
	return quotient{here.from.Place*t.Den*long + way*(now-here.from.At*t.Den), t.Den * long}.ratio()
}

// stretches tells the stretches of a path that may be for a span.
func (p path) stretches(s api.Span) iter.Seq[api.Stretch] {
	return func(yield func(api.Stretch) bool) {
		var last api.Stretch
		is := false
		for l := range p.legs() {
			next, isIn := l.inside(s)
			if !isIn {
				continue
			}
			if is && last.To == next.From {
				last.To = next.To
				continue
			}
			if is && !yield(last) {
				return
			}
			last, is = next, true
		}
		if is {
			yield(last)
		}
	}
}

// inside returns the times of a leg at which it is in a span; false if there are none.
func (l leg) inside(s api.Span) (api.Stretch, bool) {
	low := max(s.Low, min(l.from.Place, l.to.Place))
	high := min(s.High, max(l.from.Place, l.to.Place))
	switch {
	case low > high:
		return api.Stretch{}, false
	case l.from.Place < l.to.Place:
		return api.Stretch{From: l.time(low), To: l.time(high)}, true
	case l.from.Place > l.to.Place:
		return api.Stretch{From: l.time(high), To: l.time(low)}, true
	}
	return api.Stretch{From: whole(l.from.At).ratio(), To: whole(l.to.At).ratio()}, true
}

// time returns the time at which a leg that does not stay passes a place.
func (l leg) time(place int) api.Ratio {
	long, way := l.to.At-l.from.At, l.to.Place-l.from.Place
	return quotient{l.from.At*way + (place-l.from.Place)*long, way}.ratio()
}

// distances tells how far each stretch of a is from each one of b, which is later by a shift. It does so for all turns of the cycle in which they may be closest: one of a lies from 0 to the cycle, one of b begins and ends from 0 on and ahead of twice the cycle.
func distances(cycle int, a, b []api.Stretch, shift int) iter.Seq[quotient] {
	return func(yield func(quotient) bool) {
		for _, x := range a {
			for _, y := range b {
				for turn := -2; turn <= 1; turn++ {
					if !yield(distance(x, y, shift+turn*cycle)) {
						return
					}
				}
			}
		}
	}
}

// distance returns how far two stretches are apart, the second one being later by some ticks.
func distance(x, y api.Stretch, later int) quotient {
	between := quotient(y.From).plus(whole(later)).minus(quotient(x.To))
	if between.Num > 0 {
		return between
	}
	return quotient(x.From).minus(quotient(y.To).plus(whole(later))).orZero()
}

// Where returns the position of a motion at a time.
func Where(cycle, home int, motion []api.Knot, at api.Ratio) (api.Ratio, api.Errno) {
	p := path{cycle, home, motion}
	if e := p.check(); e != api.OK {
		return api.Ratio{}, e
	}
	if !isLowest(at) || !between(at.Num, -api.MaxClock, api.MaxClock) {
		return api.Ratio{}, api.ErrArg
	}
	return p.at(at), api.OK
}

// Stretches returns the times at which a motion is in a span.
func Stretches(cycle, home int, motion []api.Knot, s api.Span) ([]api.Stretch, api.Errno) {
	p := path{cycle, home, motion}
	if e := p.check(); e != api.OK {
		return nil, e
	}
	if !between(s.Low, -api.MaxPlace, 2*api.MaxPlace) || !between(s.High, -api.MaxPlace, 2*api.MaxPlace) {
		return nil, api.ErrArg
	}
	var all []api.Stretch
	for x := range p.stretches(s) {
		all = append(all, x)
	}
	return all, api.OK
}

// Gap returns how close two lists of stretches come, the second one being later by a shift; true if one of them is empty.
func Gap(cycle int, a, b []api.Stretch, shift int) (gap api.Ratio, none bool, e api.Errno) {
	if !isCycle(cycle) || !between(shift, 0, cycle-1) || !areStretches(cycle, a) || !areStretches(cycle, b) {
		return api.Ratio{}, false, api.ErrArg
	}
	least := whole(0)
	none = true
	for d := range distances(cycle, a, b, shift) {
		if none || !d.covers(least) {
			least, none = d, false
		}
	}
	return least.ratio(), none, api.OK
}
