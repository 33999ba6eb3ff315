package ledger_test

import (
	"math"
	"slices"
	"testing"

	"cullet/api"
	"cullet/ledger"
)

// heaps are so many heaps that come in at once.
func heaps(count int) []api.Post {
	return slices.Repeat([]api.Post{in(0, span(1, 1), span(0, 0), span(0, 0))}, count)
}

func TestCheckAllowed(t *testing.T) {
	for what, b := range map[string]api.Book{
		"nothing":        {},
		"month":          month(),
		"year":           year(),
		"most of all":    {Hold: span(api.MaxMass, api.MaxMass), First: span(0, api.MaxMass)},
		"a common end":   {Hold: span(10, 20), First: span(20, 30)},
		"another one":    {Hold: span(10, 20), First: span(0, 10)},
		"most posts":     book(slices.Repeat([]api.Post{end(7)}, api.MaxPosts)...),
		"most heaps":     book(append(heaps(api.MaxHeaps-1), pull(0, 2, 2), back(0, 1, 1))...),
		"late":           book(pull(api.MaxClock, 1, 2)),
		"least and most": book(pull(0, 0, api.MaxMass), pack(0, 0, api.MaxMass, api.MaxMass), pack(0, api.MaxLotNo, 0, 0), end(0), claim(0, 0, 1), claim(0, api.MaxLotNo, 1000)),
		"all of a heap":  book(in(0, span(1, 1), span(0, 0), span(1000, 1000)), in(0, span(1, 1), span(1000, 1000), span(0, 0)), in(0, span(1, 1), span(300, 400), span(0, 600))),
		"broken is one":  book(back(0, 1, 1), charge(0, 0, 5, 5)),
		"two closes":     book(end(0), end(0), pack(0, 1, 5, 5), end(0), claim(0, 1, 5), comeBack(0, 1)),
		"late claim":     book(pack(0, 1, 5, 5), end(0), pack(0, 2, 5, 5), end(0), end(0), claim(0, 2, 5), claim(0, 1, 5)),
		"back at once":   book(pack(0, 1, 5, 5), comeBack(0, 1)),
		// whether accounts can be right, and certificates are covered, is not asked
		"not right":   book(pull(0, 2000, 2000), pack(0, 3, 5000, 5000), in(0, span(1, 1), span(0, 0), span(0, 0)), charge(0, 0, 2, 2)),
		"not covered": book(pack(0, 1, 5, 5), end(0), claim(0, 1, 1000)),
	} {
		equal(t, what, ledger.Check(b), api.OK)
	}
}

// outside are numbers that are not from 0 to most.
func outside(most int) []int { return []int{-1, most + 1, math.MinInt, math.MaxInt} }

// noSpans are spans that are none of numbers from 0 to most.
func noSpans(most int) []api.Span {
	return []api.Span{span(-1, 5), span(6, 5), span(0, most+1), span(most+1, most+1), span(0, -1), span(math.MinInt, math.MaxInt), span(math.MaxInt, math.MinInt), span(0, math.MaxInt), span(math.MinInt, 0), span(math.MaxInt, math.MaxInt)}
}

// errors gathers what spoils a book.
type errors struct{ all []wrong }

func (x *errors) add(e api.Errno, change func(*api.Book)) {
	x.all = append(x.all, wrong{e, func(c *call) { change(&c.b) }})
}

// post adds what spoils a post.
func (x *errors) post(n int, e api.Errno, change func(*api.Post)) {
	x.add(e, func(b *api.Book) { change(&b.Posts[n]) })
}

// begin adds what comes first of all errors of a post behind another one.
func (x *errors) begin(n int) {
	for _, kind := range []api.PostKind{api.PoNone, api.PoReturn + 1, 255} {
		x.post(n, api.ErrArg, func(p *api.Post) { p.Kind = kind })
	}
	for _, time := range outside(api.MaxClock) {
		x.post(n, api.ErrArg, func(p *api.Post) { p.Time = time })
	}
	x.add(api.ErrState, func(b *api.Book) { b.Posts[n].Time = b.Posts[n-1].Time - 1 })
}

func (x *errors) kilos(n int) {
	for _, s := range noSpans(api.MaxMass) {
		x.post(n, api.ErrArg, func(p *api.Post) { p.Kilos = s })
	}
}

// more adds what a kind does not name, all fields but the ones that it names.
func (x *errors) more(n int, named ...string) {
	for name, field := range map[string]func(p *api.Post) *int{
		"heap":     func(p *api.Post) *int { return &p.Heap },
		"lot":      func(p *api.Post) *int { return &p.Lot },
		"kilos":    func(p *api.Post) *int { return &p.Kilos.High },
		"recycled": func(p *api.Post) *int { return &p.Recycled.Low },
		"loss":     func(p *api.Post) *int { return &p.Loss.High },
		"share":    func(p *api.Post) *int { return &p.Share },
	} {
		if slices.Contains(named, name) {
			continue
		}
		for _, value := range []int{1, -1, math.MaxInt} {
			x.post(n, api.ErrArg, func(p *api.Post) { *field(p) = value })
		}
	}
}

// wrongBooks are the errors of Check, in their order.
func wrongBooks() []wrong {
	var x errors
	for _, s := range noSpans(api.MaxMass) {
		x.add(api.ErrArg, func(b *api.Book) { b.Hold = s })
	}
	for _, s := range noSpans(api.MaxMass) {
		x.add(api.ErrArg, func(b *api.Book) { b.First = s })
	}
	x.add(api.ErrClash, func(b *api.Book) { b.First = span(0, b.Hold.Low-1) })
	x.add(api.ErrClash, func(b *api.Book) { b.First = span(b.Hold.High+1, api.MaxMass) })
	x.add(api.ErrLimit, func(b *api.Book) {
		b.Posts = append(b.Posts, make([]api.Post, api.MaxPosts+1-len(b.Posts))...)
	})
	x.wrongIn(sand)
	x.wrongCharge(chargedSand)
	x.begin(pulled)
	x.kilos(pulled)
	x.more(pulled, "kilos")
	x.wrongPack(packed6)
	x.begin(broken)
	x.kilos(broken)
	x.more(broken, "kilos")
	x.begin(closed)
	x.more(closed)
	x.wrongClaim(claimed7)
	x.wrongReturn(returned7)
	x.post(returned9, api.ErrArg, func(p *api.Post) { p.Share = 1 })
	return x.all
}

func (x *errors) wrongIn(n int) {
	x.begin(n)
	x.kilos(n)
	// that an end is above 1000 is an error of the sum
	for _, s := range []api.Span{span(-1, 5), span(6, 5), span(0, -1), span(math.MinInt, math.MaxInt), span(math.MaxInt, math.MinInt)} {
		x.post(n, api.ErrArg, func(p *api.Post) { p.Recycled = s })
	}
	for _, s := range []api.Span{span(-1, 5), span(6, 5), span(0, -1), span(math.MinInt, math.MaxInt), span(math.MaxInt, math.MinInt)} {
		x.post(n, api.ErrArg, func(p *api.Post) { p.Loss = s })
	}
	for _, s := range [][2]api.Span{
		{span(0, 801), span(150, 200)}, {span(0, 1001), span(0, 0)}, {span(0, 0), span(0, 1001)}, {span(0, 500), span(0, 501)}, {span(1001, 1001), span(0, 0)},
		{span(0, math.MaxInt), span(0, math.MaxInt)}, {span(0, math.MaxInt), span(0, 1)}, {span(0, 1), span(0, math.MaxInt)}, {span(math.MaxInt, math.MaxInt), span(math.MaxInt, math.MaxInt)},
	} {
		x.post(n, api.ErrSum, func(p *api.Post) { p.Recycled, p.Loss = s[0], s[1] })
	}
	x.more(n, "kilos", "recycled", "loss")
}

func (x *errors) wrongCharge(n int) {
	x.begin(n)
	x.kilos(n)
	for _, heap := range []int{-1, 2, 3, math.MinInt, math.MaxInt} {
		x.post(n, api.ErrNone, func(p *api.Post) { p.Heap = heap })
	}
	x.more(n, "kilos", "heap")
}

func (x *errors) wrongPack(n int) {
	x.begin(n)
	x.kilos(n)
	for _, lot := range outside(api.MaxLotNo) {
		x.post(n, api.ErrArg, func(p *api.Post) { p.Lot = lot })
	}
	x.post(n, api.ErrTwice, func(p *api.Post) { p.Lot = 7 })
	x.more(n, "kilos", "lot")
}

func (x *errors) wrongClaim(n int) {
	x.begin(n)
	for _, lot := range []int{-1, 0, 5, 9, math.MinInt, math.MaxInt} {
		x.post(n, api.ErrNone, func(p *api.Post) { p.Lot = lot })
	}
	for _, share := range append(outside(1000), 0) {
		x.post(n, api.ErrArg, func(p *api.Post) { p.Share = share })
	}
	x.post(n, api.ErrState, func(p *api.Post) { p.Lot = 8 })
	x.more(n, "lot", "share")
}

func (x *errors) wrongReturn(n int) {
	x.begin(n)
	for _, lot := range []int{-1, 0, 5, 9, math.MinInt, math.MaxInt} {
		x.post(n, api.ErrNone, func(p *api.Post) { p.Lot = lot })
	}
	x.more(n, "lot")
}

func TestCheckErrors(t *testing.T) {
	inOrder(t, "Check", wrongBooks(), func(c call) []any { return []any{ledger.Check(c.b)} })
	for _, x := range wrongBooks() {
		c := good()
		x.spoil(&c)
		if got := c.checked(); !onlyError(got, x.e) {
			t.Errorf("got %v, want error %v", got, x.e)
		}
	}
}

func checks(t *testing.T, want api.Errno, posts ...api.Post) {
	t.Helper()
	equal(t, "error", ledger.Check(book(posts...)), want)
}

// TestCheckHeaps: a heap comes before it is charged, and there are only so many, of both kinds together.
func TestCheckHeaps(t *testing.T) {
	checks(t, api.ErrNone, charge(0, 0, 1, 1), heaps(1)[0])
	checks(t, api.ErrNone, heaps(1)[0], charge(0, 1, 1, 1), heaps(1)[0])
	full := heaps(api.MaxHeaps)
	checks(t, api.OK, append(full, charge(0, api.MaxHeaps-1, 1, 1))...)
	checks(t, api.ErrNone, append(full, charge(0, api.MaxHeaps, 1, 1))...)
	checks(t, api.ErrLimit, append(full, full[0])...)
	checks(t, api.ErrLimit, append(full, back(0, 1, 1))...)
	checks(t, api.ErrLimit, append(slices.Repeat([]api.Post{back(0, 1, 1)}, api.MaxHeaps), full[0])...)
	// ahead of the limit comes what the heap is, and what its kind does not name behind it
	checks(t, api.ErrArg, append(full, back(0, 2, 1))...)
	checks(t, api.ErrSum, append(full, in(0, span(1, 1), span(0, 600), span(0, 600)))...)
	checks(t, api.ErrLimit, append(full, api.Post{Kind: api.PoIn, Lot: 1})...)
	checks(t, api.ErrLimit, append(full, api.Post{Kind: api.PoBack, Lot: 1})...)
}

// TestCheckLots: a lot is packed once, comes back once, and is certified once: behind the close of its period, not behind its return (P9.6).
func TestCheckLots(t *testing.T) {
	checks(t, api.ErrTwice, pack(0, 1, 5, 5), pack(0, 1, 5, 5))
	checks(t, api.ErrTwice, pack(0, 1, 5, 5), comeBack(0, 1), end(0), pack(0, 1, 5, 5))
	checks(t, api.ErrNone, claim(0, 1, 5), pack(0, 1, 5, 5))
	checks(t, api.ErrNone, comeBack(0, 1), pack(0, 1, 5, 5))
	checks(t, api.ErrNone, claim(0, 0, 5))
	checks(t, api.ErrClash, pack(0, 1, 5, 5), comeBack(0, 1), comeBack(0, 1))
	checks(t, api.ErrState, pack(0, 1, 5, 5), claim(0, 1, 5))
	checks(t, api.ErrState, end(0), end(0), pack(0, 1, 5, 5), claim(0, 1, 5), end(0))
	certified := []api.Post{pack(0, 1, 5, 5), end(0), claim(0, 1, 5)}
	checks(t, api.OK, append(certified, comeBack(0, 1))...)
	checks(t, api.ErrTwice, append(certified, claim(0, 1, 5))...)
	// of the errors of a certificate the return comes first, then its share, that there is one, and the period
	checks(t, api.ErrClash, append(certified, comeBack(0, 1), claim(0, 1, 0))...)
	checks(t, api.ErrArg, append(certified, claim(0, 1, 0))...)
	checks(t, api.ErrTwice, append(certified, api.Post{Kind: api.PoClaim, Lot: 1, Share: 5, Heap: 1})...)
	checks(t, api.ErrClash, pack(0, 1, 5, 5), comeBack(0, 1), claim(0, 1, 5))
	checks(t, api.ErrArg, pack(0, 1, 5, 5), claim(0, 1, 1001))
	checks(t, api.ErrState, pack(0, 1, 5, 5), api.Post{Kind: api.PoClaim, Lot: 1, Share: 5, Heap: 1})
	checks(t, api.ErrArg, pack(0, 1, 5, 5), end(0), api.Post{Kind: api.PoClaim, Lot: 1, Share: 5, Heap: 1})
}

// TestCheckTimes: the first post may have any time, and none an earlier one than that just before it.
func TestCheckTimes(t *testing.T) {
	checks(t, api.OK, end(50), end(50), end(51))
	checks(t, api.ErrState, end(50), end(51), end(50))
	checks(t, api.ErrState, end(50), pull(49, 2, 1))
	checks(t, api.ErrArg, end(50), pull(-1, 1, 2))
	checks(t, api.ErrArg, end(50), api.Post{Time: 49})
}

// TestCheckPosts: of several posts the first one that is wrong decides.
func TestCheckPosts(t *testing.T) {
	checks(t, api.ErrNone, charge(0, 0, 1, 1), pull(0, 2, 1))
	checks(t, api.ErrArg, pull(0, 2, 1), charge(0, 0, 1, 1))
	checks(t, api.ErrTwice, pack(0, 1, 1, 1), pack(0, 1, 1, 1), end(-1))
}
