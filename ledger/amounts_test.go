package ledger_test

import (
	"maps"
	"math"
	"slices"
	"testing"

	"cullet/api"
	"cullet/ledger"
)

// amount checks what an account has behind so many posts.
func amount(t *testing.T, b api.Book, a api.Account, heap, posts int, want api.Span) {
	t.Helper()
	got, e := ledger.Amount(b, a, heap, posts)
	if e != api.OK || got != want {
		t.Errorf("account %d, heap %d behind %d: got %v, error %d, want %v", a, heap, posts, got, e, want)
	}
}

// amounts checks what an account has behind each number of posts.
func amounts(t *testing.T, b api.Book, a api.Account, heap int, want ...api.Span) {
	t.Helper()
	equal(t, "counts", len(want), len(b.Posts)+1)
	for posts, s := range want {
		amount(t, b, a, heap, posts, s)
	}
}

func isRight(t *testing.T, b api.Book) {
	t.Helper()
	isWrong(t, b, len(b.Posts), api.AcFurnace, 0)
}

func isWrong(t *testing.T, b api.Book, post int, a api.Account, heap int) {
	t.Helper()
	gotPost, gotAccount, gotHeap, e := ledger.Wrong(b)
	if e != api.OK || gotPost != post || gotAccount != a || gotHeap != heap {
		t.Errorf("got post %d, account %d, heap %d, error %d; want %d, %d, %d", gotPost, gotAccount, gotHeap, e, post, a, heap)
	}
}

func TestAmount(t *testing.T) {
	b := month()
	isRight(t, b)
	full := span(1000000, 1000000)
	amounts(t, b, api.AcFurnace, 0, full, full, span(1200000, 1210000), span(1000000, 1020000), span(1000000, 1020000), span(1000000, 1020000))
	amounts(t, b, api.AcFloor, 0, span(0, 0), span(0, 0), span(0, 0), span(190000, 200000), span(10000, 20000), span(10000, 20000))
	amounts(t, b, api.AcHeap, 0, span(0, 0), span(500000, 500000), span(290000, 300000), span(290000, 300000), span(290000, 300000), span(290000, 300000))
	isRight(t, year())
	amount(t, year(), api.AcFurnace, 0, 0, span(800000, 1000000))
	amount(t, year(), api.AcFurnace, 0, 3, span(1000000, 1210000))
	amount(t, year(), api.AcFurnace, 0, 4, span(1240000, 1465000))
	// nothing is in a heap that has not come yet
	amount(t, year(), api.AcHeap, 2, broken, span(0, 0))
	amount(t, year(), api.AcHeap, 2, broken+1, span(90000, 100000))
	amount(t, year(), api.AcHeap, 3, 0, span(0, 0))
	amount(t, year(), api.AcHeap, 3, yearEnd, span(20000, 35000))
}

// TestAmountBack: what comes later tells what an amount was before.
func TestAmountBack(t *testing.T) {
	b := book(pull(0, 100, 200), pack(0, 1, 150, 300), back(1, 40, 60))
	amounts(t, b, api.AcFloor, 0, span(0, 0), span(190000, 200000), span(40000, 50000), span(0, 10000))
	amounts(t, b, api.AcHeap, 0, span(0, 0), span(0, 0), span(0, 0), span(40000, 60000))
	b = api.Book{Hold: span(100, 200), First: span(0, 300), Posts: []api.Post{pull(0, 60, 80), in(0, span(50, 50), span(0, 0), span(0, 100)), charge(0, 0, 0, 50), pull(0, 20, 30)}}
	amounts(t, b, api.AcFurnace, 0, span(160000, 200000), span(100000, 140000), span(100000, 140000), span(120000, 190000), span(100000, 170000))
	amounts(t, b, api.AcHeap, 0, span(0, 0), span(0, 0), span(50000, 50000), span(0, 50000), span(0, 50000))
	// as much glass as fills the furnace, less than that was pulled
	b = api.Book{Hold: span(0, 100), First: span(100, 100), Posts: []api.Post{pull(0, 10, 90), in(0, span(90, 90), span(0, 0), span(500, 500)), charge(0, 0, 40, 80), charge(0, 0, 10, 10)}}
	amounts(t, b, api.AcFurnace, 0, span(100000, 100000), span(10000, 75000), span(10000, 75000), span(30000, 95000), span(35000, 100000))
	isRight(t, b)
	// First and Hold are what both say
	b = api.Book{Hold: span(10, 20), First: span(15, 40)}
	amounts(t, b, api.AcFurnace, 0, span(15000, 20000))
	b = api.Book{Hold: span(10, 20), First: span(0, 10), Posts: []api.Post{pull(0, 0, 5)}}
	amounts(t, b, api.AcFurnace, 0, span(10000, 10000), span(10000, 10000))
}

// TestAmountGreat: the floor may have far more than is weighed at once.
func TestAmountGreat(t *testing.T) {
	b := book(slices.Repeat([]api.Post{pull(0, 0, api.MaxMass)}, api.MaxPosts-1)...)
	amount(t, b, api.AcFloor, 0, api.MaxPosts-1, span(0, 255000000000))
	b = with(b, pack(0, 1, 5, 5))
	amount(t, b, api.AcFloor, 0, api.MaxPosts, span(0, 254999995000))
	amount(t, b, api.AcFloor, 0, api.MaxPosts-1, span(5000, 255000000000))
}

// TestWrong: the first post with which some account has no true story.
func TestWrong(t *testing.T) {
	isRight(t, api.Book{})
	isRight(t, book(pull(0, 500, 900)))
	isWrong(t, book(pull(0, 501, 501)), 0, api.AcFurnace, 0)
	isWrong(t, book(end(0), pull(0, 300, 900), pull(0, 201, 300)), 2, api.AcFurnace, 0)
	isRight(t, book(pull(0, 300, 900), pull(0, 200, 300)))
	isWrong(t, book(pack(0, 1, 1, 1)), 0, api.AcFloor, 0)
	isWrong(t, book(pull(0, 1, 5), back(0, 6, 7)), 1, api.AcFloor, 0)
	isRight(t, book(pull(0, 1, 5), back(0, 5, 7)))
	// glass that fills the furnace above what it holds
	heap := in(0, span(1000, 1000), span(0, 0), span(500, 500))
	isRight(t, book(heap, charge(0, 0, 1000, 1000)))
	isWrong(t, book(in(0, span(1001, 1001), span(0, 0), span(500, 500)), charge(0, 0, 1001, 1001)), 1, api.AcFurnace, 0)
	isRight(t, book(in(0, span(1001, 1001), span(0, 0), span(500, 501)), charge(0, 0, 1001, 1001)))
	// of what is all lost the furnace gets nothing
	gone := in(0, span(1000, 1000), span(0, 0), span(1000, 1000))
	isWrong(t, book(gone, charge(0, 0, 0, 5), charge(0, 0, 1000, 1001), charge(0, 0, 1, 1)), 3, api.AcHeap, 0)
	isWrong(t, book(gone, gone, charge(0, 1, 1001, 2000), charge(0, 0, 1001, 1001)), 2, api.AcHeap, 1)
	// of several accounts the furnace comes before the floor, that before the heaps, these by their numbers
	isWrong(t, book(heap, charge(0, 0, 5000, 5000)), 1, api.AcFurnace, 0)
	isWrong(t, book(back(0, 5, 5), charge(0, 0, 6, 6)), 0, api.AcFloor, 0)
	isWrong(t, book(pack(0, 1, 1, 1), pull(0, 600, 600)), 0, api.AcFloor, 0)
	isWrong(t, book(nothing(), pull(0, 600, 600), charge(0, 0, 9, 9)), 1, api.AcFurnace, 0)
	// what is wrong stays so, whatever comes behind it
	isWrong(t, book(pull(0, 600, 600), heap, charge(0, 0, 1000, 1000)), 0, api.AcFurnace, 0)
	isWrong(t, book(pack(0, 1, 3, 3), pull(0, 300, 400)), 0, api.AcFloor, 0)
}

// nothing is a heap of nothing.
func nothing() api.Post { return in(0, span(0, 0), span(0, 0), span(0, 0)) }

// TestAmountErrors: what is asked for is looked at in order, and whether the account is right last.
func TestAmountErrors(t *testing.T) {
	all := wrongBooks()
	for _, a := range []api.Account{3, 4, 255} {
		all = append(all, wrong{api.ErrArg, func(c *call) { c.a = a }})
	}
	for _, posts := range []int{-1, yearEnd + 1, math.MinInt, math.MaxInt} {
		all = append(all, wrong{api.ErrArg, func(c *call) { c.posts = posts }})
	}
	for _, heap := range []int{-1, 4, math.MinInt, math.MaxInt} {
		all = append(all, wrong{api.ErrNone, func(c *call) { c.heap = heap }})
	}
	for _, heap := range []int{-1, 1, 2, math.MinInt, math.MaxInt} {
		all = append(all, wrong{api.ErrNone, func(c *call) { c.a, c.heap = api.AcFurnace, heap }})
		all = append(all, wrong{api.ErrNone, func(c *call) { c.a, c.heap = api.AcFloor, heap }})
	}
	all = append(all, wrong{api.ErrClash, func(c *call) { c.b.Posts[chargedBroken].Kilos = span(101, 200) }})
	inOrder(t, "Amount", all, call.amount)
}

// TestAmountClash: only an account that is wrong itself has no amount, but then at no time.
func TestAmountClash(t *testing.T) {
	b := year()
	b.Posts[packed9].Kilos = span(1000, 1000)
	isWrong(t, b, packed9, api.AcFloor, 0)
	for posts := range yearEnd + 1 {
		got, e := ledger.Amount(b, api.AcFloor, 0, posts)
		if !onlyError([]any{got, e}, api.ErrClash) {
			t.Error(posts, got, e)
		}
		for _, x := range []struct {
			a    api.Account
			heap int
		}{{api.AcFurnace, 0}, {api.AcHeap, 0}, {api.AcHeap, 3}} {
			want, e := ledger.Amount(year(), x.a, x.heap, posts)
			equal(t, "error", e, api.OK)
			amount(t, b, x.a, x.heap, posts, want)
		}
	}
}

// weight is what a post does to an account, in grams, by the chapter's words.
func weight(p api.Post, n int, a api.Account, heap int, all []api.Heap, numbers map[int]int) api.Span {
	kilos := span(1000*p.Kilos.Low, 1000*p.Kilos.High)
	less := span(-kilos.High, -kilos.Low)
	switch {
	case a == api.AcFurnace && p.Kind == api.PoCharge:
		loss := all[p.Heap].Loss
		return span(p.Kilos.Low*(1000-loss.High), p.Kilos.High*(1000-loss.Low))
	case a == api.AcFurnace && p.Kind == api.PoPull:
		return less
	case a == api.AcFloor && p.Kind == api.PoPull:
		return kilos
	case a == api.AcFloor && (p.Kind == api.PoPack || p.Kind == api.PoBack):
		return less
	case a == api.AcHeap && p.Kind == api.PoCharge && p.Heap == heap:
		return less
	case a == api.AcHeap && (p.Kind == api.PoIn || p.Kind == api.PoBack) && numbers[n] == heap:
		return kilos
	}
	return span(0, 0)
}

// stories are all true stories of an account in steps of some grams, told one by one: what it may have behind each number of posts, and with how many posts it has one.
type stories struct {
	always  api.Span
	changes []api.Span
	step    int
	amounts []map[int]bool
	dead    map[[2]int]bool
	right   int
}

// tell has the account have some grams behind so many posts, and tells whether this ends well.
func (s *stories) tell(posts, grams int) bool {
	if grams < s.always.Low || grams > s.always.High || s.dead[[2]int{posts, grams}] {
		return false
	}
	if s.amounts[posts][grams] {
		return true
	}
	s.right = max(s.right, posts)
	ends := posts == len(s.changes)
	if !ends {
		for change := s.changes[posts].Low; change <= s.changes[posts].High; change += s.step {
			ends = s.tell(posts+1, grams+change) || ends
		}
	}
	if ends {
		s.amounts[posts][grams] = true
	} else {
		s.dead[[2]int{posts, grams}] = true
	}
	return ends
}

func storiesOf(b api.Book, a api.Account, heap int, all []api.Heap, step int) *stories {
	s := &stories{always: span(0, math.MaxInt), step: step, dead: map[[2]int]bool{}}
	numbers := map[int]int{}
	for n, p := range b.Posts {
		if p.Kind == api.PoIn || p.Kind == api.PoBack {
			numbers[n] = len(numbers)
		}
		s.changes = append(s.changes, weight(p, n, a, heap, all, numbers))
		s.amounts = append(s.amounts, map[int]bool{})
	}
	s.amounts = append(s.amounts, map[int]bool{})
	first := span(0, 0)
	if a == api.AcFurnace {
		first, s.always = b.First, span(1000*b.Hold.Low, 1000*b.Hold.High)
	}
	for grams := 1000 * first.Low; grams <= 1000*first.High; grams += step {
		s.tell(0, grams)
	}
	return s
}

// TestStories: what Wrong and Amount return holds against all true stories, told one by one (P9.2, P9.4).
func TestStories(t *testing.T) {
	r := newRand(92)
	right, wrongs, narrow := 0, 0, 0
	for range 1500 {
		b := someBook(r, 14, 3)
		if r.Intn(3) > 0 {
			b.Hold.Low, b.Hold.High = 0, b.Hold.High+3
		}
		// so that all ends are whole halves of kilograms
		for i := range b.Posts {
			loss := &b.Posts[i].Loss
			loss.Low, loss.High = loss.Low/500*500, loss.High/500*500
		}
		all, e := ledger.Heaps(b)
		equal(t, "error", e, api.OK)
		post, wrongAccount := len(b.Posts), [2]int{}
		for n := -2; n < len(all); n++ {
			a, heap := api.AcHeap, n
			if n < 0 {
				a, heap = []api.Account{api.AcFurnace, api.AcFloor}[n+2], 0
			}
			s := storiesOf(b, a, heap, all, 500)
			if s.right < post {
				post, wrongAccount = s.right, [2]int{int(a), heap}
			}
			for posts := range len(b.Posts) + 1 {
				got, e := ledger.Amount(b, a, heap, posts)
				if s.right < len(b.Posts) {
					wrongs++
					equal(t, "none", onlyError([]any{got, e}, api.ErrClash), true)
					continue
				}
				right++
				sums := slices.Collect(maps.Keys(s.amounts[posts]))
				fine(t, "amount", got, e, span(slices.Min(sums), slices.Max(sums)))
				if got.Low < got.High {
					narrow++
				}
			}
		}
		isWrong(t, b, post, api.Account(wrongAccount[0]), wrongAccount[1])
	}
	if right < 10000 || wrongs < 5000 || narrow < 3000 {
		t.Fatal("too few amounts", right, wrongs, narrow)
	}
}
