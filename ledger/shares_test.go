package ledger_test

import (
	"math"
	"math/big"
	"slices"
	"testing"

	"cullet/api"
	"cullet/ledger"
)

func TestHeaps(t *testing.T) {
	got, e := ledger.Heaps(month())
	list(t, "heaps", got, e, []api.Heap{{Kilos: span(500, 500), Recycled: span(600, 700)}})
	got, e = ledger.Heaps(year())
	list(t, "heaps", got, e, []api.Heap{
		{Kilos: span(500, 510), Recycled: span(600, 700)}, {Kilos: span(1000, 1000), Loss: span(150, 200)},
		{Kilos: span(90, 100), Recycled: span(0, 1000)}, {Kilos: span(40, 45), Recycled: span(258, 335)},
	})
	got, e = ledger.Heaps(book(end(0)))
	list(t, "heaps", got, e, nil)
}

func TestPeriods(t *testing.T) {
	got, e := ledger.Periods(month())
	list(t, "periods", got, e, []api.Period{{Glass: span(200000, 210000), Recycled: span(120000, 147000), Packed: span(180, 180)}, {}})
	got, e = ledger.Periods(year())
	list(t, "periods", got, e, []api.Period{
		{Glass: span(440000, 465000), Recycled: span(120000, 147000), Gases: span(45000, 60000), Packed: span(190, 192), Claimed: 200*182 + 100*10},
		{Glass: span(50000, 60000), Recycled: span(0, 60000), Packed: span(150, 150)},
		{Glass: span(10000, 20000), Recycled: span(2580, 6700), Packed: span(60, 60)},
	})
	got, e = ledger.Periods(api.Book{})
	list(t, "periods", got, e, []api.Period{{}})
	got, e = ledger.Periods(book(end(0), end(0)))
	list(t, "periods", got, e, []api.Period{{}, {}, {}})
}

// share checks the share of a period.
func share(t *testing.T, b api.Book, period int, want api.Span) {
	t.Helper()
	got, e := ledger.Share(b, period)
	fine(t, "share", got, e, want)
}

func TestShare(t *testing.T) {
	share(t, month(), 0, span(571, 735))
	share(t, month(), 1, span(0, 1000))
	share(t, year(), 0, span(258, 335))
	share(t, year(), 1, span(0, 1000))
	share(t, year(), 2, span(129, 670))
	of := func(kilos, recycled, loss api.Span) api.Book {
		return book(in(0, span(900, 900), recycled, loss), charge(0, 0, kilos.Low, kilos.High))
	}
	share(t, of(span(3, 3), span(500, 600), span(0, 0)), 0, span(500, 600))
	share(t, of(span(3, 3), span(200, 200), span(300, 300)), 0, span(285, 286)) // 2/7
	share(t, of(span(3, 3), span(0, 0), span(300, 300)), 0, span(0, 0))
	share(t, of(span(3, 3), span(1000, 1000), span(0, 0)), 0, span(1000, 1000))
	// it may be more than all, by its ends, but is at most all
	share(t, of(span(2, 3), span(900, 1000), span(0, 0)), 0, span(600, 1000))
	share(t, of(span(2, 3), span(0, 667), span(0, 0)), 0, span(0, 1000))
	share(t, of(span(2, 3), span(0, 666), span(0, 0)), 0, span(0, 999))
	// nothing may have been charged, or was not for certain
	share(t, of(span(0, 3), span(900, 900), span(0, 0)), 0, span(0, 1000))
	share(t, of(span(0, 0), span(900, 900), span(0, 0)), 0, span(0, 1000))
	share(t, of(span(3, 3), span(0, 0), span(1000, 1000)), 0, span(0, 1000))
	share(t, of(span(3, 3), span(0, 0), span(0, 1000)), 0, span(0, 1000))
	share(t, of(span(api.MaxMass, api.MaxMass), span(999, 1000), span(0, 0)), 0, span(999, 1000))
}

// TestShareBroken: of a heap that was broken as much is recycled as in the period before its own.
func TestShareBroken(t *testing.T) {
	b := book(
		in(0, span(9, 9), span(100, 200), span(0, 0)), charge(0, 0, 1, 1), back(0, 9, 9), end(0),
		back(0, 9, 9), charge(0, 1, 1, 1), end(0),
		back(0, 9, 9), charge(0, 2, 1, 1), end(0),
		back(0, 9, 9), end(0),
		back(0, 9, 9), charge(0, 4, 1, 1), charge(0, 2, 3, 3),
	)
	all, e := ledger.Heaps(b)
	kilos := span(9, 9)
	list(t, "heaps", all, e, []api.Heap{
		{Kilos: kilos, Recycled: span(100, 200)}, {Kilos: kilos, Recycled: span(0, 1000)}, {Kilos: kilos, Recycled: span(100, 200)},
		{Kilos: kilos, Recycled: span(0, 1000)}, {Kilos: kilos, Recycled: span(100, 200)}, {Kilos: kilos, Recycled: span(0, 1000)},
	})
	for period, want := range []api.Span{span(100, 200), span(0, 1000), span(100, 200), span(0, 1000), span(100, 200)} {
		share(t, b, period, want)
	}
}

func TestShareErrors(t *testing.T) {
	all := wrongBooks()
	for _, period := range []int{-1, 3, math.MinInt, math.MaxInt} {
		all = append(all, wrong{api.ErrNone, func(c *call) { c.period = period }})
	}
	inOrder(t, "Share", all, call.share)
}

// periodOf is the period of a post, by the chapter's words.
func periodOf(b api.Book, n int) int {
	count := 0
	for _, p := range b.Posts[:n] {
		if p.Kind == api.PoClose {
			count++
		}
	}
	return count
}

// packedAt is the post that packed a lot.
func packedAt(b api.Book, lot int) int {
	return slices.IndexFunc(b.Posts, func(p api.Post) bool { return p.Kind == api.PoPack && p.Lot == lot })
}

// charged are what the charges of a period bring at one end of all spans, or at the other one.
func charged(b api.Book, all []api.Heap, period int, low bool) (glass, recycled, gases int) {
	end := func(s api.Span, least bool) int {
		if least {
			return s.Low
		}
		return s.High
	}
	for n, p := range b.Posts {
		if p.Kind == api.PoCharge && periodOf(b, n) == period {
			h := all[p.Heap]
			glass += end(p.Kilos, low) * (1000 - end(h.Loss, !low))
			recycled += end(p.Kilos, low) * end(h.Recycled, low)
			gases += end(p.Kilos, low) * end(h.Loss, low)
		}
	}
	return glass, recycled, gases
}

// shares is the share of a period, by the chapter's words.
func shares(least, greatest [2]int) api.Span {
	s := span(0, 1000)
	if greatest[0] > 0 {
		x := quotient(1000*least[1], greatest[0])
		for isIn(x, span(s.Low+1, 1000)) {
			s.Low++
		}
	}
	if least[0] > 0 {
		x := quotient(1000*greatest[1], least[0])
		for isIn(x, span(0, s.High-1)) {
			s.High--
		}
	}
	return s
}

// TestPeriodsAgain: heaps, periods and shares hold against the chapter's words, charge by charge (P9.2).
func TestPeriodsAgain(t *testing.T) {
	r := newRand(93)
	count, broken, certified := 0, 0, 0
	for range 600 {
		b := someBook(r, 80, []int{3, 50, api.MaxMass}[r.Intn(3)])
		heaps, e := ledger.Heaps(b)
		equal(t, "error", e, api.OK)
		periods, e := ledger.Periods(b)
		equal(t, "error", e, api.OK)
		equal(t, "count", len(periods), periodOf(b, len(b.Posts))+1)
		known := []api.Span{}
		for period, got := range periods {
			var want api.Period
			want.Glass.Low, want.Recycled.Low, want.Gases.Low = charged(b, heaps, period, true)
			want.Glass.High, want.Recycled.High, want.Gases.High = charged(b, heaps, period, false)
			for n, p := range b.Posts {
				if p.Kind == api.PoPack && periodOf(b, n) == period {
					want.Packed.Low += p.Kilos.Low
					want.Packed.High += p.Kilos.High
				}
				if p.Kind == api.PoClaim && periodOf(b, packedAt(b, p.Lot)) == period {
					certified++
					want.Claimed += p.Share * b.Posts[packedAt(b, p.Lot)].Kilos.High
				}
			}
			equal(t, "period", got, want)
			known = append(known, shares([2]int{got.Glass.Low, got.Recycled.Low}, [2]int{got.Glass.High, got.Recycled.High}))
			share(t, b, period, known[period])
			count++
		}
		number := 0
		for n, p := range b.Posts {
			want := api.Heap{Kilos: p.Kilos, Recycled: p.Recycled, Loss: p.Loss}
			switch {
			case p.Kind == api.PoBack && periodOf(b, n) > 0:
				broken++
				want.Recycled = known[periodOf(b, n)-1]
			case p.Kind == api.PoBack:
				want.Recycled = span(0, 1000)
			case p.Kind != api.PoIn:
				continue
			}
			equal(t, "heap", heaps[number], want)
			number++
		}
		equal(t, "heaps", len(heaps), number)
	}
	if count < 3000 || broken < 2000 || certified < 500 {
		t.Fatal("too few", count, broken, certified)
	}
}

// covers checks which post certifies too much.
func covers(t *testing.T, b api.Book, want int) {
	t.Helper()
	got, e := ledger.Covered(b)
	fine(t, "covered", got, e, want)
}

func most(t *testing.T, b api.Book, lot, want int) {
	t.Helper()
	got, e := ledger.Most(b, lot)
	fine(t, "most", got, e, want)
}

// with is a book with more posts.
func with(b api.Book, posts ...api.Post) api.Book {
	b.Posts = slices.Concat(b.Posts, posts)
	return b
}

func TestCovered(t *testing.T) {
	covers(t, api.Book{}, 0)
	covers(t, month(), 5)
	most(t, month(), 7, 571)
	covers(t, with(month(), claim(9, 7, 571)), 6)
	covers(t, with(month(), claim(9, 7, 572)), 5)
	covers(t, with(month(), claim(9, 7, 572), end(9)), 5)
	covers(t, year(), yearEnd)
	most(t, year(), 8, 0)
	covers(t, with(year(), claim(90, 8, 1)), yearEnd)
	// certificates of a period add up: 120000 grams of 465 kilograms, of 190 that were packed, are 49032 grams
	b := year()
	b.Posts[claimed7].Share = 263
	covers(t, b, yearEnd)
	b.Posts[claimed7].Share = 264
	covers(t, b, claimed6)
	b.Posts[claimed7].Share = 270
	covers(t, b, claimed7)
	b.Posts[claimed6].Share = 1000
	covers(t, b, claimed7)
}

// TestMost: what may still be certified of a lot, behind what is certified of its period.
func TestMost(t *testing.T) {
	heap := in(0, span(900, 900), span(500, 500), span(0, 0))
	b := book(heap, charge(0, 0, 100, 100), pack(0, 1, 10, 10), pack(0, 2, 20, 20), pack(0, 3, 0, 0), end(0))
	// 500 thousandths of 30 kilograms
	most(t, b, 1, 1000)
	most(t, b, 2, 750)
	most(t, b, 3, 1000)
	b = with(b, claim(0, 2, 300))
	most(t, b, 1, 900)
	b = with(b, comeBack(0, 2))
	most(t, b, 1, 900)
	b = with(b, pack(0, 4, 5, 5), end(0))
	most(t, b, 1, 900)
	// nothing was charged in the second period: then nothing may be certified
	most(t, b, 4, 0)
	covers(t, with(b, claim(0, 4, 1)), len(b.Posts))
	b = with(b, claim(0, 1, 900))
	covers(t, b, len(b.Posts))
	most(t, b, 3, 1000)
	// nothing of what is too much
	b.Posts[len(b.Posts)-1].Share = 901
	covers(t, b, len(b.Posts)-1)
	most(t, b, 3, 0)
	// the weight of a lot counts with its greatest end, that of all with the least ends
	b = book(heap, charge(0, 0, 80, 100), pack(0, 1, 10, 40), end(0))
	most(t, b, 1, 100)
	// by a gram
	b = book(in(0, span(900, 900), span(333, 333), span(0, 0)), charge(0, 0, 100, 100), pack(0, 1, 3, 3), pack(0, 2, 1, 1), end(0), claim(0, 1, 333))
	most(t, b, 2, 333)
	covers(t, with(b, claim(0, 2, 333)), 7)
	covers(t, with(b, claim(0, 2, 334)), 6)
}

// TestWithoutGlass: if no glass may have been charged only what weighs nothing is certified, as much as may be; the first certificate of something is too much.
func TestWithoutGlass(t *testing.T) {
	for _, charged := range [][]api.Post{nil, {nothing(), charge(0, 0, 0, 0)}, {in(0, span(9, 9), span(0, 0), span(1000, 1000)), charge(0, 0, 9, 9)}} {
		b := with(book(charged...), pack(0, 1, 10, 10), pack(0, 2, 0, 0), pack(0, 3, 0, 1), pack(0, 4, 0, 0), end(0))
		for lot, want := range map[int]int{1: 0, 2: 1000, 3: 0, 4: 1000} {
			most(t, b, lot, want)
		}
		for _, lot := range []int{1, 3} {
			covers(t, with(b, claim(0, lot, 1)), len(b.Posts))
			covers(t, with(b, claim(0, 2, 1000), claim(0, lot, 1), claim(0, 4, 1)), len(b.Posts)+1)
			// behind what is too much nothing may be certified, whatever it weighs
			most(t, with(b, claim(0, lot, 1)), 2, 0)
		}
		b = with(b, claim(0, 2, 1000))
		covers(t, b, len(b.Posts))
		most(t, b, 1, 0)
		most(t, b, 4, 1000)
		covers(t, with(b, claim(0, 4, 1000)), len(b.Posts)+1)
	}
}

// TestMostFull: of a book that has no room for one more post it is told all the same.
func TestMostFull(t *testing.T) {
	b := month()
	for len(b.Posts) < api.MaxPosts {
		b = with(b, end(9))
	}
	most(t, b, 7, 571)
}

func TestMostErrors(t *testing.T) {
	all := wrongBooks()
	for _, lot := range []int{-1, 0, 5, 10, math.MinInt, math.MaxInt} {
		all = append(all, wrong{api.ErrNone, func(c *call) { c.lot = lot }})
	}
	all = append(all,
		// lot 7 is certified, and has come back; so has 9, whose period is not closed
		wrong{api.ErrClash, func(c *call) { c.lot = 7 }},
		wrong{api.ErrClash, func(c *call) { c.lot = 9 }},
		wrong{api.ErrTwice, func(c *call) { c.lot = 6 }},
		wrong{api.ErrState, func(c *call) { c.b, c.lot = with(year(), pack(95, 4, 1, 1)), 4 }},
	)
	inOrder(t, "Most", all, call.most)
	// whatever else is too much
	b := with(year(), claim(90, 8, 1))
	for lot, want := range map[int]api.Errno{5: api.ErrNone, 7: api.ErrClash, 6: api.ErrTwice, 8: api.ErrTwice} {
		got, e := ledger.Most(b, lot)
		equal(t, "error", onlyError([]any{got, e}, want), true)
	}
}

// isTooMuch tells whether the certificates of a period up to a post are too much, by the chapter's words.
func isTooMuch(b api.Book, p api.Period, period, upTo int) bool {
	certified := big.NewInt(0)
	for _, x := range b.Posts[:upTo+1] {
		if x.Kind == api.PoClaim && periodOf(b, packedAt(b, x.Lot)) == period {
			lot := b.Posts[packedAt(b, x.Lot)]
			certified.Add(certified, big.NewInt(int64(x.Share*lot.Kilos.High)))
		}
	}
	if p.Glass.High == 0 {
		return certified.Sign() > 0
	}
	sure := new(big.Rat).Mul(quotient(p.Recycled.Low, 1), quotient(p.Packed.Low, 1))
	sure.Quo(sure, quotient(p.Glass.High, 1000))
	return new(big.Rat).SetInt(certified).Cmp(sure) > 0
}

// firstTooMuch is the first post that certifies too much, by the chapter's words.
func firstTooMuch(t *testing.T, b api.Book) int {
	t.Helper()
	all, e := ledger.Periods(b)
	equal(t, "error", e, api.OK)
	for n, x := range b.Posts {
		if x.Kind == api.PoClaim {
			period := periodOf(b, packedAt(b, x.Lot))
			if isTooMuch(b, all[period], period, n) {
				return n
			}
		}
	}
	return len(b.Posts)
}

// TestCoveredAgain: what is too much, and what may still be certified, hold against the chapter's words, certificate by certificate (P9.3, P9.6).
func TestCoveredAgain(t *testing.T) {
	r := newRand(94)
	tooMuch, fit, room := 0, 0, 0
	for range 700 {
		b := someBook(r, 60, []int{3, 50, api.MaxMass}[r.Intn(3)])
		for i := range b.Posts {
			if b.Posts[i].Kind == api.PoClaim && r.Intn(3) > 0 {
				b.Posts[i].Share = 1 + b.Posts[i].Share/100
			}
		}
		want := firstTooMuch(t, b)
		covers(t, b, want)
		if want < len(b.Posts) {
			tooMuch++
		}
		time := b.Posts[len(b.Posts)-1].Time
		for lot := range 12 {
			got, e := ledger.Most(b, lot)
			longer := with(b, claim(time, lot, 1))
			if ledger.Check(longer) != api.OK {
				equal(t, "error", onlyError([]any{got, e}, ledger.Check(longer)), true)
				continue
			}
			equal(t, "error", e, api.OK)
			for _, share := range []int{1, got, got + 1, 1 + r.Intn(1000), 1000} {
				if 1 <= share && share <= 1000 {
					longer.Posts[len(b.Posts)].Share = share
					at, _ := ledger.Covered(longer)
					equal(t, "may be certified", at > len(b.Posts), share <= got)
				}
			}
			fit++
			if 0 < got && got < 1000 {
				room++
			}
		}
	}
	if tooMuch < 200 || fit < 500 || room < 30 {
		t.Fatal("too few certificates", tooMuch, fit, room)
	}
}

// TestCoveredGreat: the greatest books have products that no int has.
func TestCoveredGreat(t *testing.T) {
	const count = 80
	b := api.Book{Hold: span(0, api.MaxMass), Posts: []api.Post{in(0, span(api.MaxMass, api.MaxMass), span(500, 500), span(0, 0))}}
	for lot := range count {
		b = with(b, charge(0, 0, api.MaxMass, api.MaxMass), pack(0, lot, api.MaxMass, api.MaxMass))
	}
	b = with(b, end(0))
	for lot := range count - 1 {
		b = with(b, claim(0, lot, 500))
	}
	covers(t, b, len(b.Posts))
	most(t, b, count-1, 500)
	covers(t, with(b, claim(0, count-1, 500)), len(b.Posts)+1)
	covers(t, with(b, claim(0, count-1, 501)), len(b.Posts))
	b.Posts[len(b.Posts)-1].Share = 501
	most(t, b, count-1, 499)
	for i, p := range b.Posts {
		if p.Kind == api.PoClaim {
			b.Posts[i].Share = 1000
		}
	}
	covers(t, b, 2*count+2+count/2)
	most(t, b, count-1, 0)
}
