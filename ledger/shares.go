package ledger

import (
	"math/bits"
	"slices"
	"sort"

	"cullet/api"
	"cullet/inspect"
)

// shareOf returns how many thousandths of a period's glass are recycled.
func shareOf(p api.Period) api.Span {
	s := api.Span{Low: 0, High: whole}
	if p.Glass.High > 0 {
		s.Low = whole * p.Recycled.Low / p.Glass.High
	}
	if p.Glass.Low > 0 {
		s.High = min(whole, up(whole*p.Recycled.High, p.Glass.Low))
	}
	return s
}

// up returns a / b, rounded up; a is at least 0, b above 0.
func up(a, b int) int { return (a + b - 1) / b }

// isExcess tells whether more is certified of a period than is surely recycled of what was packed in it.
func isExcess(p api.Period) bool {
	// Nothing is recycled where no glass may have been charged, but by multiplication with that glass any certificate would be covered.
	if p.Glass.High == 0 {
		return p.Claimed > 0
	}
	return isMore(p.Claimed, p.Glass.High, 1000*p.Recycled.Low, p.Packed.Low)
}

// isMore tells whether a * b is more than c * d, all being at least 0. Both may be too great for an int.
func isMore(a, b, c, d int) bool {
	high, low := bits.Mul64(uint64(a), uint64(b))
	otherHigh, otherLow := bits.Mul64(uint64(c), uint64(d))
	return high > otherHigh || high == otherHigh && low > otherLow
}

// Heaps returns the heaps of a book.
func Heaps(b api.Book) ([]api.Heap, api.Errno) {
	r, e := recordOf(b)
	if e != api.OK {
		return nil, e
	}
	return r.heaps, api.OK
}

// Periods returns the periods of a book.
func Periods(b api.Book) ([]api.Period, api.Errno) {
	r, e := recordOf(b)
	if e != api.OK {
		return nil, e
	}
	return r.periods, api.OK
}

// Share returns how many thousandths of a period's glass are recycled.
func Share(b api.Book, period int) (api.Span, api.Errno) {
	all, e := Periods(b)
	if e != api.OK {
		return api.Span{}, e
	}
	if !isIndex(period, len(all)) {
		return api.Span{}, api.ErrNone
	}
	return shareOf(all[period]), api.OK
}

// Covered returns the first post that certifies too much, or how many posts there are.
func Covered(b api.Book) (post int, e api.Errno) {
	r, e := recordOf(b)
	if e != api.OK {
		return 0, e
	}
	return r.covered(), api.OK
}

func (r *record) covered() int {
	if r.excess == none {
		return len(r.book.Posts)
	}
	return r.excess
}

// Most returns the greatest share that may be certified for a lot.
func Most(b api.Book, lot int) (share int, e api.Errno) {
	r, e := recordOf(b)
	if e != api.OK {
		return 0, e
	}
	if e := r.checkLot(lot); e != api.OK {
		return 0, e
	}
	if e := r.checkClaim(lot); e != api.OK {
		return 0, e
	}
	if r.excess != none {
		return 0, api.OK
	}
	return r.most(*r.lots[lot]), api.OK
}

// most returns the greatest share that may be certified for a lot if no post certifies too much.
func (r *record) most(l lot) int {
	// The first share that is too great is searched, from 1 on.
	return sort.Search(whole, func(share int) bool {
		p := r.periods[l.period]
		p.Claimed += (share + 1) * l.most
		return isExcess(p)
	})
}

// Packed returns the first post that packs a lot that may not leave, or how many posts there are.
func Packed(b api.Book, c api.Checker, l []api.Run, s api.Shop, m api.Machine, w []api.Switch, holds []api.Hold) (post int, e api.Errno) {
	if e := Check(b); e != api.OK {
		return 0, e
	}
	free, e := inspect.Release(c, l, s, m, w, holds)
	if e != api.OK {
		return 0, e
	}
	isKept := func(p api.Post) bool { return p.Kind == api.PoPack && !slices.Contains(free, p.Lot) }
	if post := slices.IndexFunc(b.Posts, isKept); post != none {
		return post, api.OK
	}
	return len(b.Posts), api.OK
}
