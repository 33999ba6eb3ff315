package strength

import "cullet/api"

// quotient is num / den; den is above 0. Its terms need not be the lowest ones.
type quotient struct{ num, den int }

// The circle's number lies between these two.
var (
	lessThanCircle = quotient{333, 106}
	moreThanCircle = quotient{355, 113}
)

// by returns the quotient, divided by one that is above 0.
func (q quotient) by(o quotient) quotient {
	return quotient{q.num * o.den, q.den * o.num}
}

// down returns the quotient, which is not below 0, rounded down.
func (q quotient) down() int { return q.num / q.den }

// up returns the quotient, which is not below 0, rounded up.
func (q quotient) up() int { return (q.num + q.den - 1) / q.den }

// exceeds tells whether the quotient is greater than another one.
func (q quotient) exceeds(o quotient) bool { return q.num*o.den > o.num*q.den }

// ratio returns the quotient, which is not below 0, in lowest terms.
func (q quotient) ratio() api.Ratio {
	a, b := q.num, q.den
	for b != 0 {
		a, b = b, a%b
	}
	return api.Ratio{Num: q.num / a, Den: q.den / a}
}
