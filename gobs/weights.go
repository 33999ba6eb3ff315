package gobs

import (
	"cmp"
	"slices"

	"cullet/api"
)

// place is where a loop is with a gob: its phase, and the position of its tube.
type place struct{ phase, tube int }

// weights is a set: the spans of the weights at each place of it. Those of a place are joined, and there are some.
type weights map[place][]api.Span

func toWeights(set []api.Cell) weights {
	w := weights{}
	for _, c := range set {
		w[place{c.Phase, c.Tube}] = slices.Clone(c.Weights)
	}
	return w
}

// cells returns the list of cells of a set.
func (w weights) cells() []api.Cell {
	var all []api.Cell
	for at, spans := range w {
		all = append(all, api.Cell{Phase: at.phase, Tube: at.tube, Weights: spans})
	}
	slices.SortFunc(all, byPlace)
	return all
}

func byPlace(a, b api.Cell) int {
	return cmp.Or(cmp.Compare(a.Phase, b.Phase), cmp.Compare(a.Tube, b.Tube))
}

// lie tells whether all of a set lies in limits.
func (w weights) lie(limits api.Span) bool {
	for _, spans := range w {
		if spans[0].Low < limits.Low || spans[len(spans)-1].High > limits.High {
			return false
		}
	}
	return true
}

// in tells whether all of a set belongs to another one.
func (w weights) in(other weights) bool {
	for at, spans := range w {
		for _, s := range spans {
			if !slices.ContainsFunc(other[at], func(o api.Span) bool { return o.Low <= s.Low && s.High <= o.High }) {
				return false
			}
		}
	}
	return true
}

// take puts another set to this one. It returns what has grown: all that now stands at the places to which something came.
func (w weights) take(other weights) weights {
	grown := weights{}
	for at, spans := range other {
		all := joined(slices.Concat(w[at], spans))
		if !slices.Equal(all, w[at]) {
			w[at], grown[at] = all, all
		}
	}
	return grown
}

// tooGreat is what a search goes wrong with when a set grows too great.
type tooGreat struct{}

// mustBeSmall goes wrong with a set that has a place with too many spans, or a weight that is too far off.
func (w weights) mustBeSmall() {
	w.mustBeShort()
	if !w.lie(api.Span{Low: -api.MaxGob, High: 2 * api.MaxGob}) {
		panic(tooGreat{})
	}
}

// mustBeShort goes wrong with a set that has a place with too many spans.
func (w weights) mustBeShort() {
	for _, spans := range w {
		if len(spans) > api.MaxPieces {
			panic(tooGreat{})
		}
	}
}

// told returns the cells of what a search finds, or its error: ErrLimit if a set grows too great.
func told(search func() (weights, api.Errno)) (all []api.Cell, e api.Errno) {
	defer func() {
		if recover() != nil {
			all, e = nil, api.ErrLimit
		}
	}()
	w, e := search()
	return w.cells(), e
}

// joined returns spans in their order, so that there is a number between two neighbours that belongs to none.
func joined(spans []api.Span) []api.Span {
	byLow := func(a, b api.Span) int { return cmp.Compare(a.Low, b.Low) }
	return join(spans, byLow, func(a, b api.Span) (api.Span, bool) {
		return api.Span{Low: a.Low, High: max(a.High, b.High)}, b.Low <= a.High+1
	})
}

// join returns items in an order. What can be one with what comes before it is made one with it.
func join[T any](items []T, order func(a, b T) int, one func(a, b T) (T, bool)) []T {
	sorted := slices.Clone(items)
	slices.SortFunc(sorted, order)
	var all []T
	for i, x := range sorted {
		if i > 0 {
			last := &all[len(all)-1]
			if both, ok := one(*last, x); ok {
				*last = both
				continue
			}
		}
		all = append(all, x)
	}
	return all
}
