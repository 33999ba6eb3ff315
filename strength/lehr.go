package strength

import (
	"iter"

	"cullet/api"
	"cullet/batch"
)

// CheckLehr returns the first error of a lehr, or OK.
func CheckLehr(l api.Lehr) api.Errno {
	return errorOf(func() { needLehr(l) })
}

func needLehr(l api.Lehr) {
	need(len(l.Knees) <= api.MaxKnees, api.ErrLimit)
	need(len(l.Knees) >= 2, api.ErrArg)
	need(l.Knees[0].Minute == 0, api.ErrArg)
	for i, k := range l.Knees {
		need(i == 0 || k.Minute > l.Knees[i-1].Minute, api.ErrArg)
		need(k.Minute <= api.MaxMinutes, api.ErrArg)
		need(between(k.Temp, 0, api.MaxDegrees), api.ErrArg)
	}
	need(between(l.Factor, 0, api.MaxFactor), api.ErrArg)
}

// needTemps goes wrong with the error of a lehr, then that of temperatures.
func needTemps(l api.Lehr, temps api.Span) {
	needLehr(l)
	need(within(temps, 0, api.MaxDegrees), api.ErrArg)
}

// Steepest returns how fast the temperature falls at most where it is one of these.
func Steepest(l api.Lehr, temps api.Span) (rate api.Ratio, e api.Errno) {
	return told(func() api.Ratio {
		needTemps(l, temps)
		return steepest(l, temps).ratio()
	})
}

// Held returns for how many minutes the temperature is at least this one.
func Held(l api.Lehr, temp int) (int, api.Errno) {
	return told(func() int {
		needLehr(l)
		need(between(temp, 0, api.MaxDegrees), api.ErrArg)
		return held(l, temp)
	})
}

// Strain returns the strain that a lehr leaves in glass of a thickness, at most, if it comes of these temperatures.
func Strain(l api.Lehr, temps api.Span, thick int) (int, api.Errno) {
	return told(func() int {
		needTemps(l, temps)
		need(between(thick, 1, api.MaxThick), api.ErrArg)
		return strain(l, temps, thick)
	})
}

// Anneals tells whether a lehr keeps the glass of a recipe for so long at the temperature that a property names, and leaves no more strain than the limit.
func Anneals(l api.Lehr, b api.Batch, recipe []int, property, below, soak, thick, limit int) (bool, api.Errno) {
	return told(func() bool {
		needLehr(l)
		point, e := batch.Value(b, recipe, property)
		needOK(e)
		need(between(below, 0, api.MaxDegrees), api.ErrArg)
		need(between(soak, 0, api.MaxMinutes), api.ErrArg)
		need(between(thick, 1, api.MaxThick), api.ErrArg)
		need(limit >= 0, api.ErrArg)
		need(within(point, below, api.MaxDegrees), api.ErrScope)
		temps := api.Span{Low: point.Low - below, High: point.High}
		return held(l, point.High) >= soak && strain(l, temps, thick) <= limit
	})
}

// piece is what lies between two knees of a curve.
type piece struct{ from, to api.Knee }

// pieces tells the pieces of a lehr's curve.
func pieces(l api.Lehr) iter.Seq[piece] {
	return func(yield func(piece) bool) {
		for i, k := range l.Knees[1:] {
			if !yield(piece{l.Knees[i], k}) {
				return
			}
		}
	}
}

func (p piece) minutes() int { return p.to.Minute - p.from.Minute }

// falls returns how fast the temperature falls; below 0 if it rises.
func (p piece) falls() quotient {
	return quotient{p.from.Temp - p.to.Temp, p.minutes()}
}

// held returns for how many whole minutes the temperature is at least this one.
func (p piece) held(temp int) int {
	low, high := min(p.from.Temp, p.to.Temp), max(p.from.Temp, p.to.Temp)
	switch {
	case low >= temp:
		return p.minutes()
	case high < temp:
		return 0
	}
	return quotient{p.minutes() * (high - temp), high - low}.down()
}

func steepest(l api.Lehr, temps api.Span) quotient {
	most := quotient{0, 1}
	for p := range pieces(l) {
		meets := p.from.Temp >= temps.Low && p.to.Temp <= temps.High // if it falls
		if meets && p.falls().exceeds(most) {
			most = p.falls()
		}
	}
	return most
}

func held(l api.Lehr, temp int) int {
	minutes := 0
	for p := range pieces(l) {
		minutes += p.held(temp)
	}
	return minutes
}

func strain(l api.Lehr, temps api.Span, thick int) int {
	rate := steepest(l, temps)
	return quotient{l.Factor * rate.num * thick * thick, 1000000 * rate.den}.up()
}
