package forming

import (
	"cmp"
	"math/bits"

	"cullet/api"
)

// quotient is an api.Ratio to reckon with: its terms need not be the lowest ones.
type quotient api.Ratio

func whole(n int) quotient { return quotient{n, 1} }

func (q quotient) plus(o quotient) quotient {
	return quotient{q.Num*o.Den + o.Num*q.Den, q.Den * o.Den}
}

func (q quotient) minus(o quotient) quotient {
	return q.plus(quotient{-o.Num, o.Den})
}

// orZero returns the quotient, or 0 if it is below 0.
func (q quotient) orZero() quotient {
	if q.Num < 0 {
		return whole(0)
	}
	return q
}

// covers tells whether another quotient is at most this one. Neither is below 0. The products may be too great for an int: both terms of a difference of times may have 54 bits.
func (q quotient) covers(o quotient) bool {
	high, low := bits.Mul64(uint64(q.Num), uint64(o.Den))
	oHigh, oLow := bits.Mul64(uint64(o.Num), uint64(q.Den))
	return cmp.Or(cmp.Compare(oHigh, high), cmp.Compare(oLow, low)) <= 0
}

// ratio returns the quotient in lowest terms.
func (q quotient) ratio() api.Ratio {
	d := divisor(q.Num, q.Den)
	if q.Den < 0 {
		d = -d
	}
	return api.Ratio{Num: q.Num / d, Den: q.Den / d}
}

// divisor returns the greatest common divisor of two numbers, not both 0.
func divisor(a, b int) int {
	for b != 0 {
		a, b = b, a%b
	}
	return max(a, -a)
}

// modulo returns the number from 0 to n - 1 that differs from a by a multiple of n.
func modulo(a, n int) int { return (a%n + n) % n }
