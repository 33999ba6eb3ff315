package ledger_test

import (
	"slices"
	"strings"
	"testing"

	"cullet/api"
	"cullet/ledger"
)

const monthText = "hold 900 1300 1000 1000\n0 in 500 500 600 700 0 0\n0 charge 0 200 210\n0 pull 190 200\n0 pack 7 180 180\n0 close\n"

func TestWrite(t *testing.T) {
	for want, b := range map[string]api.Book{
		monthText:        month(),
		yearText:         year(),
		"hold 0 0 0 0\n": {},
		"hold 0 1000 500 500\n1000000000 pull 0 1000000\n": book(pull(api.MaxClock, 0, api.MaxMass)),
	} {
		got, e := ledger.Write(b)
		fine(t, "text", got, e, want)
	}
	inOrder(t, "Write", wrongBooks()[:60], func(c call) []any {
		text, e := ledger.Write(c.b)
		return []any{text, e}
	})
}

// reads checks that a text gives a book.
func reads(t *testing.T, text string, want api.Book) {
	t.Helper()
	got, line, e := ledger.Read(text)
	if e != api.OK || line != 0 || !ledger.Same(got, want) {
		t.Errorf("%.300q: got %v, line %d, error %d", text, got, line, e)
	}
}

func TestRead(t *testing.T) {
	reads(t, monthText, month())
	reads(t, yearText, year())
	reads(t, strings.TrimSuffix(yearText, "\n"), year())
	reads(t, "hold 0 0 0 0", api.Book{})
	reads(t, "hold 1 2 2 3\n5 close", api.Book{Hold: span(1, 2), First: span(2, 3), Posts: []api.Post{end(5)}})
	reads(t, "hold 0 1000 500 500\n"+strings.Repeat("7 close\n", api.MaxPosts), book(slices.Repeat([]api.Post{end(7)}, api.MaxPosts)...))
}

// TestThereAndBack: the text of a book is read as that book (P9.8).
func TestThereAndBack(t *testing.T) {
	r := newRand(91)
	count := 0
	for range 500 {
		b := someBook(r, 60, []int{3, 100, api.MaxMass}[r.Intn(3)])
		count += len(b.Posts)
		text, e := ledger.Write(b)
		equal(t, "error", e, api.OK)
		reads(t, text, b)
	}
	if count < 10000 {
		t.Fatal("too few posts", count)
	}
}

// TestLongest: the longest text there is is not too long.
func TestLongest(t *testing.T) {
	most := span(api.MaxMass, api.MaxMass)
	b := api.Book{Hold: most, First: most}
	for range api.MaxPosts {
		if len(b.Posts) < api.MaxHeaps {
			b.Posts = append(b.Posts, in(api.MaxClock, most, span(100, 100), span(900, 900)))
		} else {
			b.Posts = append(b.Posts, charge(api.MaxClock, api.MaxHeaps-1, api.MaxMass, api.MaxMass))
		}
	}
	text, e := ledger.Write(b)
	equal(t, "error", e, api.OK)
	reads(t, text, b)
}

// readFails checks that a text has this error at this line, and gives nothing.
func readFails(t *testing.T, text string, line int, e api.Errno) {
	t.Helper()
	b, gotLine, got := ledger.Read(text)
	if gotLine != line || !onlyError([]any{b, got}, e) {
		t.Errorf("%.200q: got %v, line %d, error %d; want line %d, error %d", text, b, gotLine, got, line, e)
	}
}

// badNumbers are words, or what may stand in the place of one, that are no numbers of a text.
func badNumbers() []string {
	return []string{"", "01", "+1", "-0", "00", "1.0", "0x1", "1_0", "-", "1e3", "1\r", "\t1", "x", "\xff", "10000000000", "-10000000000", "00000000001", "99999999999999999999", "--1", " 1", "1 ", "1-2"}
}

// kindLines is a line for each kind, the first one of the text among them.
func kindLines() []string {
	return []string{"hold 0 9 5 5", "1 in 5 6 1 2 3 4", "2 charge 0 1 2", "3 pull 1 2", "4 pack 7 1 2", "5 back 1 2", "6 close", "7 claim 7 5", "8 return 7"}
}

// spoiled are lines in which something is left out, or put in, or not a number.
func spoiled(line string) []string {
	words := strings.Split(line, " ")
	var all []string
	for i, word := range words {
		all = append(all, strings.Join(slices.Delete(slices.Clone(words), i, i+1), " "))
		all = append(all, strings.Join(slices.Insert(slices.Clone(words), i, ""), " "))
		all = append(all, strings.Join(slices.Insert(slices.Clone(words), i, "1"), " "))
		changes := []string{"x", "holds", "IN", "Close", word + "\r", word + "\t", word + "\x00"}
		if '0' <= word[0] && word[0] <= '9' {
			changes = append(changes, badNumbers()...)
			changes = append(changes, "hold", "close", "in")
		}
		for _, change := range changes {
			other := slices.Clone(words)
			other[i] = change
			all = append(all, strings.Join(other, " "))
		}
	}
	return append(all, line+" ", line+" 1", " "+line, "", " ", "\r", words[0], words[0]+" ", strings.Join(words, "  "), strings.Join(words, "\t"))
}

func TestReadForms(t *testing.T) {
	lines := kindLines()
	if _, line, e := ledger.Read(strings.Join(lines, "\n")); e != api.OK {
		t.Fatal(line, e)
	}
	for i, line := range lines {
		for _, form := range spoiled(line) {
			// a line that is wrong decides before whatever comes behind it, and before Check
			changed := append(slices.Clone(lines[:i]), form)
			readFails(t, strings.Join(changed, "\n")+"\nx\n", i+1, api.ErrForm)
			changed = append(changed, lines[i+1:]...)
			if i > 0 {
				changed[0] = "hold 9 0 0 9999999999"
			}
			readFails(t, strings.Join(changed, "\n")+"\n", i+1, api.ErrForm)
		}
	}
	for _, form := range []string{"hold 0 9 5 5", "1 hold 0 9 5 5", "1 none", "1 sample eye crack found", "1 in charge 0 1 2"} {
		readFails(t, lines[0]+"\n"+form, 2, api.ErrForm)
		readFails(t, strings.Join(lines, "\n")+"\n"+form, 10, api.ErrForm)
	}
}

// TestReadOrder: the line hold is the first one, and no other.
func TestReadOrder(t *testing.T) {
	readFails(t, "", 0, api.ErrForm)
	readFails(t, "\n", 1, api.ErrForm)
	readFails(t, "\n"+monthText, 1, api.ErrForm)
	readFails(t, monthText+"\n", 7, api.ErrForm)
	readFails(t, monthText+" ", 7, api.ErrForm)
	readFails(t, monthText+"hold 900 1300 1000 1000\n", 7, api.ErrForm)
	for _, line := range kindLines()[1:] {
		readFails(t, line, 1, api.ErrForm)
		readFails(t, line+"\n"+monthText, 1, api.ErrForm)
	}
}

// TestReadCheck: a text that is of the form gives Check's error, without a line.
func TestReadCheck(t *testing.T) {
	head := "hold 0 9 5 5\n"
	for text, want := range map[string]api.Errno{
		"hold 9 0 5 5":                                              api.ErrArg,
		"hold -1 9 5 5\n":                                           api.ErrArg,
		"hold 0 9 5 9999999999\n":                                   api.ErrArg,
		"hold -9999999999 9 5 5\n":                                  api.ErrArg,
		"hold 0 9 10 11":                                            api.ErrClash,
		head + "-1 close":                                           api.ErrArg,
		head + "1000000001 close":                                   api.ErrArg,
		head + "5 close\n4 close":                                   api.ErrState,
		head + "5 pull 2 1":                                         api.ErrArg,
		head + "5 in 5 5 0 1 0 1000":                                api.ErrSum,
		head + "5 charge 0 1 2":                                     api.ErrNone,
		head + "5 pack 1000001 1 2":                                 api.ErrArg,
		head + "5 pack 1 1 2\n5 claim 1 5":                          api.ErrState,
		head + "5 claim 1 5":                                        api.ErrNone,
		head + "5 return -9999999999":                               api.ErrNone,
		head + strings.Repeat("5 close\n", api.MaxPosts+1):          api.ErrLimit,
		head + strings.Repeat("5 back 1 1\n", api.MaxHeaps+1):       api.ErrLimit,
		head + strings.Repeat("5 pack 1 1 2\n", 2):                  api.ErrTwice,
		head + "5 pack 1 1 2\n" + strings.Repeat("5 return 1\n", 2): api.ErrClash,
	} {
		readFails(t, text, 0, want)
	}
}

func TestReadLimit(t *testing.T) {
	readFails(t, strings.Repeat("x", api.MaxText), 1, api.ErrForm)
	readFails(t, strings.Repeat("x", api.MaxText+1), 0, api.ErrLimit)
	readFails(t, monthText+strings.Repeat("\n", api.MaxText), 0, api.ErrLimit)
	// a text that is as long as may be, and of the form
	long := "hold 9 0 5 55\n" + strings.Repeat("5 close\n", (api.MaxText-14)/8) + "1"
	long = strings.Replace(long, "5 close\n1", "55 close\n1", 1)
	equal(t, "length", len(long), api.MaxText)
	readFails(t, strings.TrimSuffix(long, "1"), 0, api.ErrArg)
	readFails(t, long, strings.Count(long, "\n")+1, api.ErrForm)
	readFails(t, long+"\n", 0, api.ErrLimit)
}

// TestSame: books are the same just if they are equal in each field (P9.1).
func TestSame(t *testing.T) {
	for i, change := range []func(*api.Book){
		func(b *api.Book) { b.Hold.Low++ },
		func(b *api.Book) { b.Hold.High++ },
		func(b *api.Book) { b.First.Low++ },
		func(b *api.Book) { b.First.High++ },
		func(b *api.Book) { b.Posts = b.Posts[1:] },
		func(b *api.Book) { b.Posts = b.Posts[:len(b.Posts)-1] },
		func(b *api.Book) { b.Posts = nil },
		func(b *api.Book) { b.Posts[0], b.Posts[1] = b.Posts[1], b.Posts[0] },
		func(b *api.Book) { b.Posts[2].Time++ },
		func(b *api.Book) { b.Posts[2].Kind++ },
		func(b *api.Book) { b.Posts[2].Heap++ },
		func(b *api.Book) { b.Posts[2].Lot++ },
		func(b *api.Book) { b.Posts[2].Kilos.Low++ },
		func(b *api.Book) { b.Posts[2].Kilos.High++ },
		func(b *api.Book) { b.Posts[2].Recycled.Low++ },
		func(b *api.Book) { b.Posts[2].Recycled.High++ },
		func(b *api.Book) { b.Posts[2].Loss.Low++ },
		func(b *api.Book) { b.Posts[2].Loss.High++ },
		func(b *api.Book) { b.Posts[2].Share++ },
	} {
		b := year()
		change(&b)
		if ledger.Same(b, year()) || ledger.Same(year(), b) {
			t.Error("the same in spite of change", i)
		}
		equal(t, "itself", ledger.Same(b, b), true)
	}
	equal(t, "equal", ledger.Same(year(), year()), true)
	equal(t, "nothing", ledger.Same(api.Book{}, api.Book{Posts: []api.Post{}}), true)
	wild := api.Book{Hold: span(-7, -9), Posts: []api.Post{{Kind: 77, Lot: -1}}}
	equal(t, "what may not be", ledger.Same(wild, api.Book{Hold: span(-7, -9), Posts: []api.Post{{Kind: 77, Lot: -1}}}), true)
}
