package strength

import (
	"iter"

	"cullet/api"
)

// rings tells the rings of a bottle with their numbers.
func rings(b api.Bottle) iter.Seq2[int, api.Ring] {
	return func(yield func(int, api.Ring) bool) {
		for i, r := range b.Rings {
			if !yield(i, r) {
				return
			}
		}
	}
}

// thickness returns how thick a ring is that comes of such weights.
func thickness(r api.Ring, weights api.Span) api.Span {
	least := quotient{200 * weights.Low * r.Share.Low, r.Radius.High * r.Height.High}
	most := quotient{200 * weights.High * r.Share.High, r.Radius.Low * r.Height.Low}
	return api.Span{Low: least.by(moreThanCircle).down(), High: most.by(lessThanCircle).up()}
}

// stress returns what a load makes of a ring.
func stress(r api.Ring, thick api.Span, l api.Load) api.Span {
	var sum api.Span
	parts := []func(api.Ring, api.Span, api.Load) (low, high int){ofPress, ofForce, ofBlow, ofOther}
	for _, part := range parts {
		low, high := part(r, thick, l)
		sum.Low += low
		sum.High += high
	}
	return sum
}

// ofPress returns the stress that comes of the pressure inside.
func ofPress(r api.Ring, thick api.Span, l api.Load) (low, high int) {
	low = quotient{l.Press * r.Radius.Low * r.Factor.Low, 100 * thick.High}.down()
	high = quotient{l.Press * r.Radius.High * r.Factor.High, 100 * thick.Low}.up()
	return low, high
}

// ofForce returns the stress that comes of the weight on top.
func ofForce(r api.Ring, thick api.Span, l api.Load) (low, high int) {
	low = quotient{500000 * l.Force, r.Radius.High * thick.High}.by(moreThanCircle).down()
	high = quotient{500000 * l.Force, r.Radius.Low * thick.Low}.by(lessThanCircle).up()
	return low, high
}

// ofBlow returns the stress that comes of a blow.
func ofBlow(r api.Ring, thick api.Span, l api.Load) (low, high int) {
	low = quotient{r.Hit.Low * l.Speed, thick.High}.down()
	high = quotient{r.Hit.High * l.Speed, thick.Low}.up()
	return low, high
}

func ofOther(_ api.Ring, _ api.Span, l api.Load) (low, high int) {
	return l.Other, l.Other
}

// bears returns the greatest stress that the glass of a bottle bears. The square of a stress, times the flaw, may be too great for an int; so what the glass bears is divided by the flaw, and by the stress, before they are compared.
func bears(b api.Bottle) int {
	square := quotient{b.Tough, b.Flaw}.down()
	return first(1, api.MaxTough, func(s int) bool { return s > square/s }) - 1
}

// wall is a bottle with the thicknesses of its rings.
type wall struct {
	bottle api.Bottle
	thick  []api.Span
	bears  int
}

func newWall(b api.Bottle, thick []api.Span) wall { return wall{b, thick, bears(b)} }

// holds tells whether a bottle surely holds under a load: all of its rings do.
func (w wall) holds(l api.Load) bool {
	for i, r := range rings(w.bottle) {
		if stress(r, w.thick[i], l).High > w.bears {
			return false
		}
	}
	return true
}

// breaks tells whether a bottle surely breaks under a load: one of its rings does.
func (w wall) breaks(l api.Load) bool {
	for i, r := range rings(w.bottle) {
		if stress(r, w.thick[i], l).Low > w.bears {
			return true
		}
	}
	return false
}

// needed returns the least thickness of each ring with which it surely holds; 0 if there is none.
func needed(b api.Bottle, l api.Load) []int {
	most := bears(b)
	all := make([]int, len(b.Rings))
	for i, r := range rings(b) {
		all[i] = firstOrZero(api.MaxThick, func(thick int) bool {
			return stress(r, api.Span{Low: thick, High: thick}, l).High <= most
		})
	}
	return all
}

// lightest returns the least weight of which all rings get at least the thickness that they need; 0 if there is none.
func lightest(b api.Bottle, l api.Load) int {
	least := needed(b, l)
	return firstOrZero(api.MaxGob, func(weight int) bool {
		for i, r := range rings(b) {
			if least[i] == 0 || thickness(r, api.Span{Low: weight, High: weight}).Low < least[i] {
				return false
			}
		}
		return true
	})
}

// first returns the least number from low to high for which a condition is true that is true from some number on; the number behind high if there is none.
func first[N ~int](low, high N, is func(N) bool) N {
	for low <= high {
		middle := low + (high-low)/2
		if is(middle) {
			high = middle - 1
		} else {
			low = middle + 1
		}
	}
	return low
}

// firstOrZero returns the least number from 1 to high for which a condition is true that is true from some number on; 0 if there is none.
func firstOrZero[N ~int](high N, is func(N) bool) N {
	n := first(1, high, is)
	if n > high {
		return 0
	}
	return n
}
