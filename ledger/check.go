package ledger

import (
	"math"

	"cullet/api"
)

// Check returns the first error of a book, or OK.
func Check(b api.Book) api.Errno {
	_, e := recordOf(b)
	return e
}

// checkHead returns the first error of a book ahead of those of its posts.
func checkHead(b api.Book) api.Errno {
	if !within(b.Hold, 0, api.MaxMass) || !within(b.First, 0, api.MaxMass) {
		return api.ErrArg
	}
	if isEmpty(common(b.Hold, b.First)) {
		return api.ErrClash
	}
	if len(b.Posts) > api.MaxPosts {
		return api.ErrLimit
	}
	return api.OK
}

// checkHeap returns the error of one more heap.
func (r *record) checkHeap() api.Errno {
	if len(r.heaps) >= api.MaxHeaps {
		return api.ErrLimit
	}
	return api.OK
}

// checkLot returns the error of a lot that shall have been packed, and not have come back.
func (r *record) checkLot(number int) api.Errno {
	l, is := r.lots[number]
	if !is {
		return api.ErrNone
	}
	if l.returned {
		return api.ErrClash
	}
	return api.OK
}

// checkClaim returns the error of certifying a lot of which checkLot returns none.
func (r *record) checkClaim(number int) api.Errno {
	l := r.lots[number]
	if l.certified {
		return api.ErrTwice
	}
	if !r.isClosed(l.period) {
		return api.ErrState
	}
	return api.OK
}

func isIndex(n, count int) bool { return between(n, 0, count-1) }

func between(n, least, most int) bool { return least <= n && n <= most }

// within tells whether a span is one of numbers from least to most, and not empty.
func within(s api.Span, least, most int) bool {
	return least <= s.Low && s.Low <= s.High && s.High <= most
}

// isSpan tells whether a span is one of any numbers from 0 on, and not empty.
func isSpan(s api.Span) bool { return within(s, 0, math.MaxInt) }

// isAbove tells whether the sum of two numbers from 0 on is above a third one. It may be too great for an int.
func isAbove(a, b, most int) bool { return a > most || b > most-a }
