package plan_test

import (
	"slices"
	"strconv"
	"strings"
	"testing"

	"cullet/api"
	"cullet/plan"
)

const pubText = "days 2\noven 10000 60000\narticle pint 0 3000\narticle quart 0 6000\nmaker 0 500 pint 100000 60000\njob 0:0 144:100\njob 144:100 0:0\ncolour 0:0\norder pint 100000 1 1\norder quart 50000 1 1\n"

const townText = `days 3
oven 10000 50000
oven 0 40000
article jar 0 3000
article beer 1 2500
article wine-7 1 6000
maker 0 300 jar 100000 80000 0
maker 1 100 wine-7 0 70000 50000
maker 0 200 - 50000 60000 30000
job 1440:9999 120:40 200:60
job 100:30 1440:9999 90:20
job 110:50 80:25 1440:9999
colour 1440:9999 700:1000
colour 800:2000 1440:9999
order wine-7 90000 2 3
order jar 150000 1 2
`

// odd has names that are words of lines, and a machine without rates.
func odd() (text string, s api.Season) {
	s = api.Season{Days: 1, Articles: []api.Article{article("days", 0, 1), article("maker", 0, 2)}, Jobs: never(2), Colours: never(1)}
	s.Ovens = []api.Oven{oven(0, 0)}
	s.Makers = []api.Maker{maker(0, 0, 1, 0, 0)}
	s.Orders = []api.Order{order(1, 0, 0, 0)}
	return "days 1\noven 0 0\narticle days 0 1\narticle maker 0 2\nmaker 0 0 maker 0 0\njob 0:0 0:0\njob 0:0 0:0\ncolour 0:0\norder maker 0 0 0\n", s
}

func TestPrint(t *testing.T) {
	oddText, oddSeason := odd()
	for want, s := range map[string]api.Season{
		pubText: pub(), townText: town(), oddText: oddSeason,
		"days 14\n":                       {Days: 14, Articles: []api.Article{}},
		"days 1\noven 3 5\nmaker 0 7 -\n": {Days: 1, Ovens: []api.Oven{oven(3, 5)}, Makers: []api.Maker{maker(0, 7, -1)}},
		"days 1\ncolour 1:2\n":            {Days: 1, Colours: [][]api.Turn{{turn(1, 2)}}},
	} {
		got, e := plan.Print(s)
		fine(t, "text", got, e, want)
	}
}

func TestParse(t *testing.T) {
	oddText, oddSeason := odd()
	for text, want := range map[string]api.Season{
		pubText: pub(), townText: town(), oddText: oddSeason, strings.TrimSuffix(townText, "\n"): town(), "days 14": {Days: 14},
		"days 1\noven 3 5\nmaker 0 7 -": {Days: 1, Ovens: []api.Oven{oven(3, 5)}, Makers: []api.Maker{maker(0, 7, -1)}},
		"days 1\ncolour 1:2\n":          {Days: 1, Colours: [][]api.Turn{{turn(1, 2)}}},
	} {
		got, line, e := plan.Parse(text)
		fine(t, "season", got, e, want)
		equal(t, "line", line, 0)
	}
}

// parseFails tells that a text has this error at this line, and gives nothing.
func parseFails(t *testing.T, text string, line int, e api.Errno) {
	t.Helper()
	s, gotLine, got := plan.Parse(text)
	if gotLine != line || !onlyError([]any{s, got}, e) {
		t.Errorf("%.200q: got %v, line %d, error %d; want line %d, error %d", text, s, gotLine, got, line, e)
	}
}

// formLines has a line of each kind.
func formLines() []string {
	return []string{"days 1", "oven 0 9", "article a 0 1", "maker 0 0 a 1", "job 0:0", "colour 0:0", "order a 1 0 1"}
}

// badForms are lines that are not of the form, for each of formLines.
func badForms() [][]string {
	forms := [][]string{
		{"", " ", "days", "days ", "days  1", " days 1", "days 1 ", "days 1 1", "day 1", "Days 1", "days\t1", "\r", "1"},
		{"", " ", "oven", "oven ", "oven 1", "oven 1 ", "oven 1 1 1", "oven  1 1", "oven 1  1", " oven 1 1", "oven 1 1 ", "Oven 1 1", "ovens 1 1"},
		{"", "article", "article a", "article a 1", "article a 1 ", "article a 1 1 1", "article  1 1", "article a  1 1", "article 1 1", "article\ta 1 1", "article a b 1", "article a 1 b"},
		{"", "maker", "maker 0", "maker 0 0", "maker 0 0 ", "maker 0 0  1", "maker 0 0 a ", "maker 0 0 a 1 ", "maker 0 0 a  1", "maker 0 a 0", "maker a 0 a", "maker 0 0 a a", "maker 0 0 none a", "maker - 0 a", "maker 0 - a", "maker 0 0 a -", "maker 0 0 a 1:1", "makers 0 0 a"},
		{"", "job ", "jobs 0:0", "job 0", "job 0 0", "job 0:", "job :0", "job :", "job 0:0:0", "job 0:0 ", "job  0:0", "job 0:0  0:0", "job 0 :0", "job 0: 0", "job 0:a", "job a:0", "job 0;0", "job 0:0 0", "job 0:-", "job 0::0"},
		{"", "colour ", "colours 0:0", "color 0:0", "colour 0", "colour 0:", "colour :0", "colour 0:0:0", "colour 0:0 ", "colour 0:0 0:", "colour 0:0,0:0"},
		{"", "order", "order a", "order a 1", "order a 1 0", "order a 1 0 1 1", "order a 1 0 1 ", "order  1 0 1", "order a  1 0 1", "order none 1 0", "order none a 0 1", "orders a 1 0 1", "order 1 0 1"},
	}
	for _, n := range []string{"01", "+1", "-0", "00", "1.0", "0x1", "1_0", "-", "1e3", "1\r", "\t1", "x", "\xff", "10000000000", "-10000000000", "00000000001", "99999999999999999999", "--1", "1:1"} {
		forms[0] = append(forms[0], "days "+n)
		forms[1] = append(forms[1], "oven "+n+" 1", "oven 0 "+n)
		forms[2] = append(forms[2], "article a "+n+" 1", "article a 0 "+n)
		forms[3] = append(forms[3], "maker "+n+" 0 a", "maker 0 "+n+" a 1", "maker 0 0 a "+n, "maker 0 0 none 1 "+n, "maker "+n+" 0 none")
		forms[4] = append(forms[4], "job "+n+":0", "job 0:"+n, "job 0:0 0:"+n)
		forms[5] = append(forms[5], "colour "+n+":0", "colour 0:"+n)
		forms[6] = append(forms[6], "order a "+n+" 0 1", "order a 1 "+n+" 1", "order a 1 0 "+n, "order none 1 0 "+n)
	}
	return forms
}

func TestParseForms(t *testing.T) {
	if _, _, e := plan.Parse(strings.Join(formLines(), "\n")); e != api.OK {
		t.Fatal(e)
	}
	for i, list := range badForms() {
		for _, form := range list {
			changed := formLines()
			changed[i] = form
			parseFails(t, strings.Join(changed, "\n")+"\n", i+1, api.ErrForm)
			// a line that is wrong decides before whatever comes behind it, and before Check
			parseFails(t, strings.Join(changed[:i+1], "\n")+"\nmaker 0 0 none\n", i+1, api.ErrForm)
		}
	}
}

// TestParseOrder: lines of each kind stand behind those of the kinds ahead of it, days just once.
func TestParseOrder(t *testing.T) {
	parseFails(t, "", 0, api.ErrForm)
	parseFails(t, "\n", 1, api.ErrForm)
	lines := formLines()
	for i, first := range lines {
		if i > 0 {
			parseFails(t, strings.Join(lines[i:], "\n"), 1, api.ErrForm)
		}
		text := strings.Join(lines[:i+1], "\n") + "\n"
		for j, second := range lines {
			if j < i || j == 0 {
				parseFails(t, text+second+"\n", i+2, api.ErrForm)
			} else if got, line, e := plan.Parse(text + second + "\n"); line != 0 && e == api.ErrForm {
				t.Error(first, second, got, line)
			}
		}
		parseFails(t, text+"\n", i+2, api.ErrForm)
		parseFails(t, text+" ", i+2, api.ErrForm)
	}
}

func TestParseNames(t *testing.T) {
	head := "days 1\noven 0 9\narticle a 0 1\narticle b 0 1\n"
	for _, word := range []string{"c", "A", "a\r", "-1", "0", "1", "--", "ab", "\x00"} {
		parseFails(t, head+"maker 0 0 "+word+" 1 1\n", 5, api.ErrNone)
		parseFails(t, head+"maker 0 0 - 1 1\nmaker 0 0 "+word+"\narticle c 0 1\n", 6, api.ErrNone)
		parseFails(t, head+"maker 0 0 a 1 1\norder "+word+" 1 0 1\n", 6, api.ErrNone)
	}
	parseFails(t, head+"order - 1 0 1\n", 5, api.ErrNone)
	// a line that is not where it may be is not looked up
	parseFails(t, head+"job 0:0\nmaker 0 0 c\n", 6, api.ErrForm)
	// the first article with a name is meant; one that is named - is meant by orders only
	parseFails(t, "days 1\noven 0 9\narticle a 0 1\narticle a 0 1\nmaker 0 0 a 1 1\n", 0, api.ErrNone)
	parseFails(t, "days 1\noven 0 9\narticle a 0 1\narticle a 0 1\nmaker 0 0 a 1 1\ncolour 0:0\n", 0, api.ErrTwice)
	parseFails(t, "days 1\narticle - 0 1\ncolour 0:0\norder - 1 0 1\n", 0, api.ErrName)
}

// TestParseCheck: a text that is of the form gives Check's error, without a line.
func TestParseCheck(t *testing.T) {
	for text, want := range map[string]api.Errno{
		"days 0\n":                 api.ErrArg,
		"days 15":                  api.ErrArg,
		"days -9999999999\n":       api.ErrArg,
		"days 9999999999\n":        api.ErrArg,
		"days 1\narticle A 0 1\n":  api.ErrName,
		"days 1\narticle 7 7 7\n":  api.ErrName,
		"days 1\narticle a\t 0 1":  api.ErrName,
		"days 1\narticle a 0 1":    api.ErrNone,
		"days 1\noven 2 1\n":       api.ErrArg,
		"days 1\nmaker 0 0 -\n":    api.ErrNone,
		"days 1\njob\n":            api.ErrArg,
		"days 1\njob 0:0\n":        api.ErrArg,
		"days 1\ncolour\n":         api.ErrArg,
		"days 1\ncolour 0:-1\n":    api.ErrArg,
		"days 1\ncolour 1441:0\n":  api.ErrArg,
		"days 1\ncolour 0:0 0:0\n": api.ErrArg,
		"days 1\narticle a 0 1\njob 0:0\ncolour 0:0\norder a 1 1 1\n":            api.ErrArg,
		"days 1\narticle a 0 1\njob 0:0\ncolour 0:0\norder a 1 0 1\norder a 1 0": api.ErrForm,
	} {
		line := 0
		if want == api.ErrForm {
			line = 6
		}
		parseFails(t, text, line, want)
	}
	parseFails(t, "days 1\n"+strings.Repeat("oven 0 0\n", api.MaxOvens+1), 0, api.ErrLimit)
	parseFails(t, "days 1\noven 0 0\n"+strings.Repeat("maker 0 0 -\n", api.MaxMakers+1), 0, api.ErrLimit)
	parseFails(t, "days 1\n"+strings.Repeat("article a 0 1\n", api.MaxArticles+1), 0, api.ErrLimit)
	parseFails(t, "days 1\n"+strings.Repeat("colour\n", api.MaxColours+1), 0, api.ErrLimit)
	parseFails(t, strings.TrimSuffix(pubText, "order quart 50000 1 1\n")+"order pint 1 1 1\n", 0, api.ErrTwice)
	parseFails(t, pubText+"order pint 1 1 1\n", 0, api.ErrLimit)
	// many shifts of a machine that a text tells
	s := town()
	manyShifts(54)(&s)
	text, e := plan.Print(s)
	equal(t, "error", e, api.OK)
	parseFails(t, strings.Replace(text, "oven 0 65", "oven 0 66", 1), 0, api.ErrScope)
}

func TestParseLimit(t *testing.T) {
	parseFails(t, strings.Repeat("x", api.MaxText), 1, api.ErrForm)
	parseFails(t, strings.Repeat("x", api.MaxText+1), 0, api.ErrLimit)
	parseFails(t, pubText+strings.Repeat("\n", api.MaxText), 0, api.ErrLimit)
	// a text that is as long as may be, and of the form
	head := "days 1\narticle "
	long := head + strings.Repeat("b", api.MaxText-len(head)-4) + " 0 1"
	parseFails(t, long, 0, api.ErrName)
	parseFails(t, long+"\n", 0, api.ErrLimit)
}

// TestParsePrinted: what is printed is parsed as it was (P8.8).
func TestParsePrinted(t *testing.T) {
	r := newRand(90)
	for range 1500 {
		s := someSeason(r, api.MaxDays)
		text, e := plan.Print(s)
		equal(t, "error", e, api.OK)
		got, line, e := plan.Parse(text)
		equal(t, "error", e, api.OK)
		equal(t, "line", line, 0)
		sameSeason(t, got, s)
	}
}

// sameSeason compares two seasons, in which nil is an empty list.
func sameSeason(t *testing.T, got, want api.Season) {
	t.Helper()
	isSame := got.Days == want.Days && slices.Equal(got.Articles, want.Articles) && slices.Equal(got.Ovens, want.Ovens) && slices.Equal(got.Orders, want.Orders) &&
		slices.EqualFunc(got.Jobs, want.Jobs, slices.Equal[[]api.Turn]) && slices.EqualFunc(got.Colours, want.Colours, slices.Equal[[]api.Turn]) &&
		slices.EqualFunc(got.Makers, want.Makers, func(a, b api.Maker) bool {
			return a.Oven == b.Oven && a.Idle == b.Idle && a.Start == b.Start && slices.Equal(a.Rates, b.Rates)
		})
	if !isSame {
		t.Errorf("season: got %v, want %v", got, want)
	}
}

// TestPrintMost: the longest text is far from the limit, and is parsed as it was, too.
func TestPrintMost(t *testing.T) {
	s := api.Season{Days: api.MaxDays}
	all := make([]int, api.MaxArticles)
	for i := range all {
		s.Articles = append(s.Articles, article("abcdefghijklmn-"+strconv.Itoa(i), 5, api.MaxGob))
		s.Orders = append(s.Orders, order(i, api.MaxRate, 13, api.MaxCosts))
		all[i] = api.MaxRate
	}
	s.Jobs, s.Colours = never(api.MaxArticles), never(api.MaxColours)
	for _, rows := range [][][]api.Turn{s.Jobs, s.Colours} {
		for i := range rows {
			for j := range rows {
				rows[i][j] = turn(1440, api.MaxCosts)
			}
		}
	}
	for range api.MaxOvens {
		s.Ovens = append(s.Ovens, oven(api.MaxHold, api.MaxHold))
	}
	for range api.MaxMakers {
		s.Makers = append(s.Makers, maker(2, api.MaxCosts, 7, all...))
	}
	text, e := plan.Print(s)
	equal(t, "error", e, api.OK)
	got, line, e := plan.Parse(text)
	fine(t, "season", got, e, s)
	equal(t, "line", line, 0)
}
