// Package batch is layer 1: it plans what goes into the furnace. See shared/doc/01-batch.md.
package batch

import "cullet/api"

// list is a list whose items can be summed up.
type list[T any] []T

// sum returns the sum of what the items count.
func (l list[T]) sum(count func(T) int) int {
	n := 0
	for _, x := range l {
		n += count(x)
	}
	return n
}

func low(s api.Span) int  { return s.Low }
func high(s api.Span) int { return s.High }

// total returns the span of the sums of numbers, one from each span.
func total(spans []api.Span) api.Span {
	l := list[api.Span](spans)
	return api.Span{Low: l.sum(low), High: l.sum(high)}
}

// dot returns the sum of the products of numbers that stand in the same places.
func dot(a, b []int) int {
	n := 0
	for i, x := range a {
		n += x * b[i]
	}
	return n
}

// down returns a / b, rounded down; b is above 0.
func down(a, b int) int {
	q := a / b
	if a%b < 0 {
		q--
	}
	return q
}

// up returns a / b, rounded up; b is above 0.
func up(a, b int) int { return -down(-a, b) }
