package ledger

import "cullet/api"

// whole is the thousandths of all.
const whole = 1000

// ends returns the ends of spans.
func ends(spans ...*api.Span) []*int {
	var all []*int
	for _, s := range spans {
		all = append(all, &s.Low, &s.High)
	}
	return all
}

func isEmpty(s api.Span) bool { return s.Low > s.High }

// common returns the numbers that two spans have in common.
func common(a, b api.Span) api.Span {
	return api.Span{Low: max(a.Low, b.Low), High: min(a.High, b.High)}
}

func sum(a, b api.Span) api.Span { return api.Span{Low: a.Low + b.Low, High: a.High + b.High} }

func opposite(s api.Span) api.Span { return api.Span{Low: -s.High, High: -s.Low} }

// product returns the span of the products of numbers from 0 on.
func product(a, b api.Span) api.Span { return api.Span{Low: a.Low * b.Low, High: a.High * b.High} }

// grams returns the grams of kilograms.
func grams(kilos api.Span) api.Span { return product(kilos, exactly(1000)) }

// rest returns the thousandths that are left of all.
func rest(thousandths api.Span) api.Span { return sum(exactly(whole), opposite(thousandths)) }

// exactly returns the span of one number.
func exactly(n int) api.Span { return api.Span{Low: n, High: n} }
