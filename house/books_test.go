package house_test

import (
	"slices"
	"strings"
	"testing"

	"cullet/api"
	"cullet/batch"
	"cullet/house"
	"cullet/ledger"
)

// lines7 pack lot 7, close its period, and certify it.
func lines7() []string {
	return []string{"pack k l r s 4 7 180 180", "post k 5 close", "certify k 6 7"}
}

// posts are those of a house's book.
func posts(t *testing.T, h *house.House) []api.Post {
	t.Helper()
	b, is := h.Book("k")
	equal(t, "is a book", is, true)
	return b.Posts
}

// TestMakeBook: a book has true stories, certificates that are covered, and no lot (P10.2, P10.4, P10.5).
func TestMakeBook(t *testing.T) {
	closed := bookText + "4 pack 7 180 180\n5 close\n"
	for body, want := range map[string]api.Errno{
		"":                               api.ErrForm,
		"hold 1 2 3\n":                   api.ErrForm,
		"hold 0 5 5 4\n":                 api.ErrArg,
		"hold 0 5 6 7\n":                 api.ErrClash,
		"hold 0 5 5 5\n1 charge 0 1 1\n": api.ErrNone,
		"hold 0 5 5 5\n1 pull 6 6\n":     api.ErrClash,
		"hold 0 5 5 5\n1 pack 7 6 6\n":   api.ErrClash,
		bookText + "4 pack 7 180 180\n":  api.ErrScope,
		closed:                           api.ErrScope,
		closed + "6 claim 7 571\n":       api.ErrScope,
		closed + "6 claim 7 572\n":       api.ErrSum,
		closed + "6 claim 7 572\n7 pull 400 400\n": api.ErrClash,
		closed + "6 claim 7 0\n7 pull 400 400\n":   api.ErrArg,
		bookText + "4 pack 7 0 0\n5 return 7\n":    api.ErrScope,
	} {
		fails(t, block("book", "x", body), want)
	}
	h := works(t)
	answers(t, h, block("book", "x", "hold 0 5 0 9\n1 pull 5 9\n2 back 1 5\n2 close\n2 close\n"), "made x")
	answers(t, h, block("book", "y", "hold 0 0 0 0\n"), "made y")
}

// TestPost: a post stands behind those of its book, if the book may be then (P10.2, P10.4).
func TestPost(t *testing.T) {
	h := works(t, lines7()...)
	before := posts(t, h)
	for i, row := range []string{"7 in 100 100 0 0 150 200", "8 charge 1 50 60", "9 pull 40 40", "10 back 5 6", "11 charge 2 1 2", "12 return 7", "13 close"} {
		answers(t, h, "post k "+row, "k: "+decimal(len(before)+1+i)+" posts")
	}
	list(t, "posts", posts(t, h), append(before,
		api.Post{Time: 7, Kind: api.PoIn, Kilos: span(100, 100), Loss: span(150, 200)}, api.Post{Time: 8, Kind: api.PoCharge, Heap: 1, Kilos: span(50, 60)},
		api.Post{Time: 9, Kind: api.PoPull, Kilos: span(40, 40)}, api.Post{Time: 10, Kind: api.PoBack, Kilos: span(5, 6)},
		api.Post{Time: 11, Kind: api.PoCharge, Heap: 2, Kilos: span(1, 2)}, api.Post{Time: 12, Kind: api.PoReturn, Lot: 7}, api.Post{Time: 13, Kind: api.PoClose},
	))
	for row, want := range map[string]api.Errno{
		"14 pull 1 0":             api.ErrArg,
		"14 pull -1 0":            api.ErrArg,
		"14 pull 0 1000001":       api.ErrArg,
		"1000000001 pull 0 1":     api.ErrArg,
		"12 pull 0 1":             api.ErrState,
		"14 charge 3 0 1":         api.ErrNone,
		"14 in 0 1 0 500 0 501":   api.ErrSum,
		"14 in 0 1 -1 500 0 501":  api.ErrArg,
		"14 return 8":             api.ErrNone,
		"14 return 7":             api.ErrClash,
		"14 pull 500 500":         api.ErrClash,
		"14 charge 0 400 400":     api.ErrClash,
		"14 back 100 100":         api.ErrClash,
		"14 pack 8 1 1":           api.ErrScope,
		"14 claim 7 1":            api.ErrScope,
		"-5 pack -1 9 1":          api.ErrScope,
		"-5 claim -1 -9999999999": api.ErrScope,
		"9999999999 pack 8 0 0":   api.ErrScope,
		"14 pack 8 1":             api.ErrForm,
		"14 claim 7 1 1":          api.ErrForm,
		"14 pack 8 1 01":          api.ErrForm,
		"14 claim":                api.ErrForm,
		"pack":                    api.ErrForm,
		"claim":                   api.ErrForm,
		"pack 8 1 1":              api.ErrForm,
		"14":                      api.ErrForm,
		"14 stop":                 api.ErrForm,
		"14 close 1":              api.ErrForm,
		"14 pull 10000000000 0":   api.ErrForm,
		"hold 900 1300 1000 1000": api.ErrForm,
		"hold 0 0 0 0":            api.ErrForm,
		"14 in 0 1 0 500 0":       api.ErrForm,
		"14 pull \xff \x00":       api.ErrForm,
		"14 pull 1 1\r":           api.ErrForm,
		"14 Pull 1 1":             api.ErrForm,
	} {
		refuses(t, h, "post k "+row, want)
	}
	refuses(t, h, "post l 14 close", api.ErrNone)
	refuses(t, h, "post k", api.ErrForm)
}

// TestLongPost: what is as long as a line may be is no post (P10.2).
func TestLongPost(t *testing.T) {
	h := works(t)
	for _, row := range []string{"5 pull 1 ", "5 pack 7 1 ", "5 claim 7 "} {
		line := "post k " + row
		refuses(t, h, line+strings.Repeat("1", api.MaxText-len(line)), api.ErrForm)
		refuses(t, h, line+strings.Repeat("1", api.MaxText-len(line)-15), api.ErrForm)
		refuses(t, h, line+strings.Repeat("1", api.MaxText-len(line)+1), api.ErrLimit)
	}
}

// TestManyPosts: a book has MaxPosts posts and MaxHeaps heaps at most (P10.2).
func TestManyPosts(t *testing.T) {
	h := works(t, block("book", "x", "hold 0 5 0 5\n"+strings.Repeat("1 close\n", api.MaxPosts-2)))
	refuses(t, h, "charge x b 5 80 40", api.ErrLimit)
	answers(t, h, "post x 1 back 0 0", "x: 255 posts")
	answers(t, h, "post x 1 pull 0 0", "x: 256 posts")
	for line, want := range map[string]api.Errno{
		"post x 1 close":       api.ErrLimit,
		"post x 0 close":       api.ErrLimit,
		"post x 1 pull 9 9":    api.ErrLimit,
		"post x 1 pack 7 1 1":  api.ErrScope,
		"pack x l r s 1 7 0 0": api.ErrLimit,
		"pack x l r s 1 2 0 0": api.ErrState,
		"certify x 5 7":        api.ErrNone,
		"charge x b 5 1 0":     api.ErrLimit,
		"charge x b 5 -1 0":    api.ErrArg,
	} {
		refuses(t, h, line, want)
	}
	answers(t, h, "charge x b 5 0 0", "x: 256 posts")
	h = works(t, block("book", "x", "hold 0 5 0 5\n"+strings.Repeat("1 back 0 0\n", api.MaxHeaps-1)))
	refuses(t, h, "charge x b 1 1 1", api.ErrLimit)
	answers(t, h, "charge x b 1 1 0", "x: 65 posts")
	refuses(t, h, "charge x b 1 1 0", api.ErrLimit)
	refuses(t, h, "post x 1 back 0 0", api.ErrLimit)
}

// TestPack: lots are packed that are released with what the line names (P10.2, P10.5).
func TestPack(t *testing.T) {
	h := works(t, block("log", "x c", ""), block("shop", "t", shopText), "hold t 11 0 9")
	answers(t, h, "pack k l r t 4 7 180 180", "k: packed 7")
	answers(t, h, "pack k l r s 4 1 0 1", "k: packed 1")
	got := posts(t, h)
	list(t, "posts", got[3:], []api.Post{{Time: 4, Kind: api.PoPack, Lot: 7, Kilos: span(180, 180)}, {Time: 4, Kind: api.PoPack, Lot: 1, Kilos: span(0, 1)}})
	for line, want := range map[string]api.Errno{
		"pack k x r s 4 6 1 1":   api.ErrState, // the log that the line names has no such lot
		"pack k l r s 4 2 1 1":   api.ErrState, // it is blocked
		"pack k l r s 4 3 1 1":   api.ErrState, // it is open
		"pack k l r s 4 9 1 1":   api.ErrState, // it was rejected
		"pack k l r t 4 1 1 1":   api.ErrState, // it is held, though it is packed
		"pack k l r s 4 -1 1 1":  api.ErrState,
		"pack k l r s 3 2 1 0":   api.ErrState,
		"pack k l r s 4 7 1 1":   api.ErrTwice,
		"pack k l r s 4 7 1 0":   api.ErrArg,
		"pack k l r s 3 7 1 0":   api.ErrState,
		"pack k l r s -1 6 1 1":  api.ErrArg,
		"pack k l r s 4 6 1 0":   api.ErrArg,
		"pack k l r s 4 6 -1 0":  api.ErrArg,
		"pack k l r s 4 6 21 30": api.ErrClash, // there is not so much on the floor
	} {
		refuses(t, h, line, want)
	}
	equal(t, "papers", len(h.Papers()), 0)
	answers(t, h, "pack k l r s 4 6 20 30", "k: packed 6")
}

// TestCertify: what may be certified of a lot is certified, with a paper of the book behind it (P10.2, P10.3).
func TestCertify(t *testing.T) {
	h := works(t, "pack k l r s 4 7 120 120", "pack k l r s 4 8 80 80")
	refuses(t, h, "certify k 6 7", api.ErrState)
	refuses(t, h, "certify k 6 1", api.ErrNone)
	answers(t, h, "post k 5 close", "k: 6 posts")
	refuses(t, h, "certify k 4 7", api.ErrState)
	refuses(t, h, "certify k -1 7", api.ErrArg)
	answers(t, h, "certify k 6 7", "certified: 952 [0]")
	refuses(t, h, "certify k 6 7", api.ErrTwice)
	refuses(t, h, "certify k 6 8", api.ErrSum) // nothing is left of what surely is recycled
	refuses(t, h, "certify k 5 8", api.ErrSum)
	p := lastPaper(t, h)
	b, _ := h.Book("k")
	equal(t, "paper", p, api.Paper{Kind: api.PaClaim, Book: b})
	equal(t, "post", b.Posts[len(b.Posts)-1], api.Post{Time: 6, Kind: api.PoClaim, Lot: 7, Share: 952})
	answers(t, h, "post k 7 return 8", "k: 8 posts")
	refuses(t, h, "certify k 8 8", api.ErrClash)
	equal(t, "paper behind more posts", lastPaper(t, h), p)
	answers(t, works(t, lines7()[:2]...), "certify k 6 7", "certified: 571 [0]")
}

// TestCertifyFull: a certificate is a post as well (P10.2).
func TestCertifyFull(t *testing.T) {
	h := works(t, lines7()[:2]...)
	for i := len(posts(t, h)); i < api.MaxPosts; i++ {
		answers(t, h, "post k 5 close", "k: "+decimal(i+1)+" posts")
	}
	refuses(t, h, "certify k 6 7", api.ErrLimit)
	refuses(t, h, "certify k 6 8", api.ErrNone)
}

func TestShare(t *testing.T) {
	h := works(t, "post k 5 close")
	answers(t, h, "share k 0", "share: 571 735")
	answers(t, h, "share k 1", "share: 0 1000")
	for _, n := range []string{"2", "-1", "9999999999"} {
		refuses(t, h, "share k "+n, api.ErrNone)
	}
}

// TestCharge: the posts of a recipe stand behind the others, with heaps of their own (P10.2).
func TestCharge(t *testing.T) {
	h := works(t)
	answers(t, h, "charge k b 5 80 40", "k: 7 posts")
	answers(t, h, "charge k b 6 0 9", "k: 9 posts")
	answers(t, h, "charge k b 1 0 0", "k: 9 posts")
	answers(t, h, "charge k b -1 0 0", "k: 9 posts")
	sand, soda := span(0, 20), span(420, 430)
	list(t, "posts", posts(t, h)[3:], []api.Post{
		{Time: 5, Kind: api.PoIn, Kilos: span(80, 80), Loss: sand}, {Time: 5, Kind: api.PoIn, Kilos: span(40, 40), Loss: soda},
		{Time: 5, Kind: api.PoCharge, Heap: 1, Kilos: span(80, 80)}, {Time: 5, Kind: api.PoCharge, Heap: 2, Kilos: span(40, 40)},
		{Time: 6, Kind: api.PoIn, Kilos: span(9, 9), Loss: soda}, {Time: 6, Kind: api.PoCharge, Heap: 3, Kilos: span(9, 9)},
	})
	for line, want := range map[string]api.Errno{
		"charge k b 6":              api.ErrArg,
		"charge k b 6 80":           api.ErrArg,
		"charge k b 6 80 40 1":      api.ErrArg,
		"charge k b 6 80 -1":        api.ErrArg,
		"charge k b 6 10001 0":      api.ErrArg,
		"charge k b -1 80 40":       api.ErrArg,
		"charge k b 1000000001 1 1": api.ErrArg,
		"charge k b 5 80 40":        api.ErrState,
		"charge k b 6 900 900":      api.ErrClash, // the furnace does not hold so much
		"charge b k 6 80 40":        api.ErrNone,
	} {
		refuses(t, h, line, want)
	}
}

// TestChargeAsLayers: what a house charges is what ledger makes of the recipe, and of nothing that is recycled.
func TestChargeAsLayers(t *testing.T) {
	x, _, _ := batch.Parse(batchText)
	want, e := ledger.Recipe(x, []int{80, 40}, make([]api.Span, 2))
	if e != api.OK {
		t.Fatal(e)
	}
	h := with(t, block("batch", "b", batchText), block("book", "k", "hold 0 500 100 100\n"), "charge k b 0 80 40")
	list(t, "posts", posts(t, h), want)
	// only charges get heaps that are counted on
	h = with(t, block("batch", "b", batchText), block("book", "k", "hold 0 500 100 100\n0 back 0 0\n"), "charge k b 0 80 40")
	got := posts(t, h)[1:]
	heaps := []int{got[0].Heap, got[1].Heap, got[2].Heap, got[3].Heap}
	list(t, "heaps", heaps, []int{0, 0, 1, 2})
}

// TestAudit: all papers are verified again (P10.2, P10.3).
func TestAudit(t *testing.T) {
	h := works(t)
	answers(t, h, "audit", "audit: good 0")
	for i, line := range slices.Concat([]string{"best b", "safe m", "release l r s"}, lines7()) {
		if _, e := h.Do(line); e != api.OK {
			t.Error(line, e)
		}
		answers(t, h, "audit", "audit: good "+decimal([]int{1, 2, 3, 3, 3, 4}[i]))
	}
	equal(t, "papers", len(h.Papers()), 4)
	refuses(t, h, "audit 1", api.ErrForm)
}
