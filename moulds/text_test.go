package moulds_test

import (
	"strings"
	"testing"

	"cullet/api"
	"cullet/moulds"
)

const pressText = `shop 2 20 60 10
mould 11 3
mould 12 5
mould 13 1000
mould 9 0
mount 11 0 0 20 290
mount 12 1 0 30 240
mount 13 0 1 60 520
mount 12 1 1 300 700
mount 11 0 0 300 560
`

func TestPrint(t *testing.T) {
	text, e := moulds.Print(pressShop())
	fine(t, "press", text, e, pressText)
	text, e = moulds.Print(api.Shop{Cavities: 4, High: api.MaxDelay})
	fine(t, "empty", text, e, "shop 4 0 100000 0\n")
}

// parses checks that a text is that of a shop.
func parses(t *testing.T, text string, want api.Shop) {
	t.Helper()
	got, line, e := moulds.Parse(text)
	if e != api.OK || line != 0 || !moulds.Same(got, want) {
		t.Errorf("%.300q: got %v, line %d, error %d", text, got, line, e)
	}
}

func TestParse(t *testing.T) {
	parses(t, pressText, pressShop())
	parses(t, strings.TrimSuffix(pressText, "\n"), pressShop())
	parses(t, "shop 1 0 0 0", api.Shop{Cavities: 1})
	parses(t, "shop 1 0 0 0\n", api.Shop{Cavities: 1})
	parses(t, "shop 1 0 0 0\nmould 7 0\nmount 7 15 0 0 1000000000", api.Shop{Cavities: 1, Moulds: numbered(0, 7), Mounts: []api.Mount{mount(0, 15, 0, 0, api.MaxClock)}})
}

// TestThereAndBack: the text of a shop is parsed as that shop (P6.8).
func TestThereAndBack(t *testing.T) {
	r := newRand(62)
	for range 2000 {
		s := someShop(r, someMachine(r))
		text, e := moulds.Print(s)
		equal(t, "error", e, api.OK)
		got, line, e := moulds.Parse(text)
		fine(t, "line", line, e, 0)
		equal(t, "shop", got, s)
		equal(t, "same", moulds.Same(got, s), true)
	}
	// the longest text there is
	s := api.Shop{Cavities: api.MaxCavities, Low: api.MaxDelay, High: api.MaxDelay, Swap: api.MaxDelay}
	for i := range api.MaxMoulds {
		s.Moulds = append(s.Moulds, api.Mould{Number: api.MaxNumber - i, Life: api.MaxLife})
	}
	for i := range api.MaxMounts {
		from := api.MaxClock - 4 + i/api.MaxMoulds
		s.Mounts = append(s.Mounts, mount(i%api.MaxMoulds, i/4%api.MaxSections, i%4, from, from+1))
	}
	text, e := moulds.Print(s)
	equal(t, "error", e, api.OK)
	parses(t, text, s)
}

// parseFails checks that a text has this error at this line, and gives nothing.
func parseFails(t *testing.T, text string, line int, e api.Errno) {
	t.Helper()
	s, gotLine, got := moulds.Parse(text)
	if gotLine != line || !onlyError([]any{s, got}, e) {
		t.Errorf("%.200q: got %v, line %d, error %d; want line %d, error %d", text, s, gotLine, got, line, e)
	}
}

func TestParseForms(t *testing.T) {
	lines := []string{"shop 1 2 3 4", "mould 5 6", "mount 5 0 0 7 8"}
	if _, _, e := moulds.Parse(strings.Join(lines, "\n")); e != api.OK {
		t.Fatal(e)
	}
	numbers := []string{"", "01", "+1", "-0", "00", "1.0", "0x1", "1_0", "-", "1e3", "1\r", "\t1", "x", "\xff", "10000000000", "-10000000000", "00000000001", "99999999999999999999", "--1", " 1", "1 ", "1:2"}
	forms := [][]string{
		{"", " ", "\r", "shop", "shop ", "shop 1 2 3", "shop 1 2 3 4 5", "shop  1 2 3 4", "shop 1 2  3 4", " shop 1 2 3 4", "shop 1 2 3 4 ", "Shop 1 2 3 4", "shops 1 2 3 4", "shop\t1 2 3 4", "1 2 3 4", "mould 5 6", "mount 5 0 0 7 8"},
		{"", "mould", "mould ", "mould 5", "mould 5 ", "mould 5 6 7", "mould 5  6", " mould 5 6", "mould 5 6 ", "moulds 5 6", "Mould 5 6", "mould\t5 6", "mould 5 0 0 7 8", "shop 1 2 3 4", "shop 5 6"},
		{"", "mount", "mount ", "mount 5", "mount 5 0 0 7", "mount 5 0 0 7 8 9", "mount 5  0 0 7 8", " mount 5 0 0 7 8", "mount 5 0 0 7 8 ", "mounts 5 0 0 7 8", "mount\t5 0 0 7 8", "mount 5 6", "shop 1 2 3 4", "mount 9 0 0 7"},
	}
	for _, n := range numbers {
		forms[0] = append(forms[0], "shop "+n+" 2 3 4", "shop 1 "+n+" 3 4", "shop 1 2 "+n+" 4", "shop 1 2 3 "+n)
		forms[1] = append(forms[1], "mould "+n+" 6", "mould 5 "+n)
		forms[2] = append(forms[2], "mount "+n+" 0 0 7 8", "mount 5 "+n+" 0 7 8", "mount 5 0 "+n+" 7 8", "mount 5 0 0 "+n+" 8", "mount 5 0 0 7 "+n, "mount 9 0 0 7 "+n)
	}
	for i, all := range forms {
		for _, form := range all {
			changed := append([]string{}, lines[:i]...)
			changed = append(changed, form)
			// a line that is wrong decides before whatever comes behind it, and before Check
			parseFails(t, strings.Join(changed, "\n")+"\nmount 77 0 0 7 8\n", i+1, api.ErrForm)
			changed = append(changed, lines[i:]...)
			parseFails(t, strings.Join(changed, "\n")+"\n", i+1, api.ErrForm)
		}
	}
}

func TestParseOrder(t *testing.T) {
	head := "shop 1 0 0 0\nmould 5 6\n"
	line := "mount 5 0 0 7 8\n"
	parseFails(t, "", 0, api.ErrForm)
	parseFails(t, "\n", 1, api.ErrForm)
	parseFails(t, "mould 5 6\n", 1, api.ErrForm)
	parseFails(t, "mould 5 6\nshop 1 0 0 0\n", 1, api.ErrForm)
	parseFails(t, line, 1, api.ErrForm)
	parseFails(t, "shop 1 0 0 0\nshop 1 0 0 0\n", 2, api.ErrForm)
	parseFails(t, head+"shop 1 0 0 0\n", 3, api.ErrForm)
	parseFails(t, head+line+"shop 1 0 0 0\n", 4, api.ErrForm)
	parseFails(t, head+line+"mould 7 0\n", 4, api.ErrForm)
	parseFails(t, head+line+"\n", 4, api.ErrForm)
	parseFails(t, head+line+" ", 4, api.ErrForm)
	parseFails(t, head+"\n"+line, 3, api.ErrForm)
	parseFails(t, "\n"+head+line, 1, api.ErrForm)
	parseFails(t, "shop 0 0 0 0\nmould 0 0\nx", 3, api.ErrForm)
}

// TestParseMoulds: a mount's number is that of a mould (P6.1).
func TestParseMoulds(t *testing.T) {
	head := "shop 1 0 0 0\nmould 5 6\nmould 3 9\n"
	for _, number := range []string{"0", "1", "2", "4", "55", "-5", "9", "9999999999"} {
		row := "mount " + number + " 0 0 7 8\n"
		parseFails(t, head+row, 4, api.ErrNone)
		parseFails(t, head+"mount 3 0 0 7 8\n"+row+"mount\n", 5, api.ErrNone)
	}
	parseFails(t, "shop 0 0 0 0\nmount 5 0 0 7 8\n", 2, api.ErrNone)
	parseFails(t, "shop 1 0 0 0\nmount 5 0 0 7 8\nmould 5 6\n", 2, api.ErrNone)
	s, _, e := moulds.Parse(head + "mount 3 0 0 7 8\nmount 5 0 0 8 9\n")
	list(t, "mounts", s.Mounts, e, []api.Mount{mount(1, 0, 0, 7, 8), mount(0, 0, 0, 8, 9)})
	// that the first one is meant shows in no result: two moulds with a number are Check's error
	parseFails(t, head+"mould 5 7\nmount 5 0 0 7 8\n", 0, api.ErrTwice)
	// numbers that no mould may have are those of moulds in a text
	parseFails(t, "shop 1 0 0 0\nmould -9999999999 0\nmount -9999999999 0 0 7 8\n", 0, api.ErrArg)
}

// TestParseCheck: a text that is of the form gives Check's error, without a line.
func TestParseCheck(t *testing.T) {
	head := "shop 1 0 0 0\nmould 5 6\n"
	for text, want := range map[string]api.Errno{
		"shop 0 0 0 0":           api.ErrArg,
		"shop 5 0 0 0\n":         api.ErrArg,
		"shop -9999999999 0 0 0": api.ErrArg,
		"shop 9999999999 0 0 0":  api.ErrArg,
		"shop 1 2 1 0":           api.ErrArg,
		"shop 1 -1 1 0":          api.ErrArg,
		"shop 1 0 0 100001":      api.ErrArg,
		head + "mould 0 0":       api.ErrArg,
		head + "mould 6 -1":      api.ErrArg,
		head + "mould 6 1000001": api.ErrArg,
		head + "mould 5 0":       api.ErrTwice,
		head + strings.Repeat("mould 5 0\n", api.MaxMoulds):       api.ErrLimit,
		head + strings.Repeat("mount 5 0 0 0 1\n", 129):           api.ErrLimit,
		head + "mount 5 16 0 0 1":                                 api.ErrNone,
		head + "mount 5 -1 0 0 1":                                 api.ErrNone,
		head + "mount 5 0 1 0 1":                                  api.ErrNone,
		head + "mount 5 0 0 -1 1":                                 api.ErrArg,
		head + "mount 5 0 0 1 1":                                  api.ErrArg,
		head + "mount 5 0 0 1 1000000001":                         api.ErrArg,
		head + "mount 5 0 0 2 3\nmount 5 0 0 1 2\n":               api.ErrState,
		head + "mount 5 0 0 2 4\nmount 5 0 0 3 5\n":               api.ErrClash,
		head + "mould 6 0\nmount 5 0 0 2 4\nmount 6 0 0 3 5":      api.ErrClash,
		strings.Replace(pressText, "11 0 0 300", "11 0 0 299", 1): api.ErrState,
	} {
		parseFails(t, text, 0, want)
	}
}

func TestParseLimit(t *testing.T) {
	parseFails(t, strings.Repeat("x", api.MaxText), 1, api.ErrForm)
	parseFails(t, strings.Repeat("x", api.MaxText+1), 0, api.ErrLimit)
	parseFails(t, pressText+strings.Repeat("\n", api.MaxText), 0, api.ErrLimit)
	// a text that is as long as may be, and of the form
	long := "shop 0 0 0 0\n" + strings.Repeat("mould 1000 0\n", 5039) + "mould 1000000 0\n"
	equal(t, "length", len(long), api.MaxText)
	parseFails(t, long, 0, api.ErrArg)
	parseFails(t, long+"\n", 0, api.ErrLimit)
}

// TestSame: shops are the same just if they are equal in each field (P6.1).
func TestSame(t *testing.T) {
	for i, change := range []func(*api.Shop){
		func(s *api.Shop) { s.Cavities++ },
		func(s *api.Shop) { s.Low++ },
		func(s *api.Shop) { s.High++ },
		func(s *api.Shop) { s.Swap++ },
		func(s *api.Shop) { s.Low, s.High = s.High, s.Low },
		func(s *api.Shop) { s.Moulds = s.Moulds[:3] },
		func(s *api.Shop) { s.Moulds[3].Number++ },
		func(s *api.Shop) { s.Moulds[3].Life++ },
		func(s *api.Shop) { s.Moulds[0], s.Moulds[1] = s.Moulds[1], s.Moulds[0] },
		func(s *api.Shop) { s.Mounts = s.Mounts[:4] },
		func(s *api.Shop) { s.Mounts = nil },
		func(s *api.Shop) { s.Mounts[4].Mould++ },
		func(s *api.Shop) { s.Mounts[4].Section++ },
		func(s *api.Shop) { s.Mounts[4].Cavity++ },
		func(s *api.Shop) { s.Mounts[4].From++ },
		func(s *api.Shop) { s.Mounts[4].To++ },
	} {
		s := pressShop()
		change(&s)
		if moulds.Same(s, pressShop()) || moulds.Same(pressShop(), s) {
			t.Error("the same in spite of change", i)
		}
		equal(t, "itself", moulds.Same(s, s), true)
	}
	equal(t, "equal", moulds.Same(pressShop(), pressShop()), true)
	equal(t, "nothing", moulds.Same(api.Shop{}, api.Shop{}), true)
	equal(t, "empty", moulds.Same(api.Shop{Low: -7}, api.Shop{Low: -7, Moulds: []api.Mould{}, Mounts: []api.Mount{}}), true)
}
