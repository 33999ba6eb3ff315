package gobs

import (
	"iter"

	"cullet/api"
)

// loop is a loop that may be.
type loop api.Loop

// far is beyond all readings of weights that are followed.
const far = 3 * api.MaxGob

func anyReading() api.Span { return api.Span{Low: -far, High: far} }

// move is what the tube does behind some readings: to where it goes, and how the weight changes by that.
type move struct {
	readings api.Span
	tube     int
	change   api.Span
}

// down returns how the tube goes down from a place, and whether it may.
func (l loop) down(at place) (move, bool) {
	return move{
		readings: api.Span{Low: l.Band.High + 1, High: far},
		tube:     at.tube - 1,
		change:   api.Span{Low: -l.Gain.High, High: -l.Gain.Low},
	}, at.phase == 0 && at.tube > l.Tube.Low
}

// up returns how the tube goes up from a place, and whether it may.
func (l loop) up(at place) (move, bool) {
	return move{
		readings: api.Span{Low: -far, High: l.Band.Low - 1},
		tube:     at.tube + 1,
		change:   l.Gain,
	}, at.phase == 0 && at.tube < l.Tube.High
}

// stay returns how the tube stays at a place: behind all readings behind which it goes neither down nor up.
func (l loop) stay(at place) (move, bool) {
	m := move{readings: anyReading(), tube: at.tube}
	if d, ok := l.down(at); ok {
		m.readings.High = d.readings.Low - 1
	}
	if u, ok := l.up(at); ok {
		m.readings.Low = u.readings.High + 1
	}
	return m, true
}

// come tells all that may come next of weights at a place, if the gob's reading is one of these.
func (l loop) come(at place, spans []api.Span, readings api.Span) iter.Seq2[place, api.Span] {
	return func(yield func(place, api.Span) bool) {
		for _, way := range [...]func(place) (move, bool){l.down, l.up, l.stay} {
			m, ok := way(at)
			if !ok {
				continue
			}
			decides, ok := meet(m.readings, readings)
			if !ok {
				continue
			}
			then := place{(at.phase + 1) % l.Every, m.tube}
			for _, s := range spans {
				s, ok := meet(s, widen(decides, l.Error))
				if ok && !yield(then, widen(plus(s, m.change), l.Drift)) {
					return
				}
			}
		}
	}
}

// next returns the set of all that may come next of a set, if the gob's reading is one of these. It may be too great.
func (l loop) next(w weights, readings api.Span) weights {
	come := map[place][]api.Span{}
	for at, spans := range w {
		for then, s := range l.come(at, spans, readings) {
			come[then] = append(come[then], s)
		}
	}
	next := weights{}
	for at, spans := range come {
		next[at] = joined(spans)
	}
	return next
}

// ever returns the set of all that may ever come of a set, and -1, if all of that lies in limits; or the number of gobs after which something else may come.
func (l loop) ever(first weights, limits api.Span) (weights, int) {
	all := weights{}
	grown := all.take(first)
	for at := 0; len(grown) > 0; at++ {
		if !grown.lie(limits) {
			return nil, at
		}
		grown.mustBeShort()
		// What comes of the other places came before.
		grown = all.take(l.next(grown, anyReading()))
	}
	return all, -1
}

// meet returns the numbers that belong to both spans, and whether there are any.
func meet(a, b api.Span) (api.Span, bool) {
	s := api.Span{Low: max(a.Low, b.Low), High: min(a.High, b.High)}
	return s, s.Low <= s.High
}

func plus(a, b api.Span) api.Span { return api.Span{Low: a.Low + b.Low, High: a.High + b.High} }

// widen returns the numbers that differ from one of a span by at most n.
func widen(s api.Span, n int) api.Span { return api.Span{Low: s.Low - n, High: s.High + n} }
