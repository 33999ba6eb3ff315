package inspect_test

import (
	"slices"
	"strings"
	"testing"

	"cullet/api"
	"cullet/inspect"
)

const hallText = `every 100
flaw crack 1
flaw stone 2
flaw tint 0
station eye
claim crack 1 50
claim stone 2 10
station ray
claim stone 1 4
claim tint 3 9
station touch
station tap
claim stone 5 6
claim crack 0 1
`

const hallLogText = `10 sample eye crack found
10 sample eye stone found
12 sample ray stone found
20 bottle 7 11 pass
30 bottle 7 12 out
40 sample eye crack found
50 sample eye stone found
60 sample ray stone found
70 bottle 8 12 pass
80 bottle 9 0 out
90 bottle 8 0 pass
100 sample eye crack missed
105 sample eye crack found
110 bottle 6 11 pass
120 sample eye crack found
130 bottle 6 0 pass
140 sample ray stone found
`

func TestPrint(t *testing.T) {
	text, e := inspect.Print(hall())
	fine(t, "hall", text, e, hallText)
	text, e = inspect.Print(eye())
	fine(t, "example", text, e, "every 100\nflaw crack 1\nstation eye\nclaim crack 1 50\n")
	text, e = inspect.Print(api.Checker{Every: api.MaxClock})
	fine(t, "empty", text, e, "every 1000000000\n")
}

func TestWrite(t *testing.T) {
	text, e := inspect.Write(hall(), hallLog())
	fine(t, "hall", text, e, hallLogText)
	text, e = inspect.Write(eye(), eyeLog())
	fine(t, "example", text, e, "10 sample eye crack found\n20 bottle 7 0 pass\n60 sample eye crack found\n70 bottle 8 0 pass\n90 sample eye crack missed\n95 bottle 9 0 pass\n")
	text, e = inspect.Write(hall(), nil)
	fine(t, "empty", text, e, "")
}

// parses checks that a text is that of a line of inspection.
func parses(t *testing.T, text string, want api.Checker) {
	t.Helper()
	got, line, e := inspect.Parse(text)
	if e != api.OK || line != 0 || !inspect.Same(got, want) {
		t.Errorf("%.300q: got %v, line %d, error %d", text, got, line, e)
	}
}

// reads checks that a text is that of a log.
func reads(t *testing.T, c api.Checker, text string, want []api.Run) {
	t.Helper()
	got, line, e := inspect.Read(c, text)
	if e != api.OK || line != 0 || !slices.Equal(got, want) {
		t.Errorf("%.300q: got %v, line %d, error %d", text, got, line, e)
	}
}

func TestParse(t *testing.T) {
	parses(t, hallText, hall())
	parses(t, strings.TrimSuffix(hallText, "\n"), hall())
	parses(t, "every 1", api.Checker{Every: 1})
	parses(t, "every 1\n", api.Checker{Every: 1})
	parses(t, "every 5\nstation flaw\nstation claim", api.Checker{Every: 5, Stands: []api.Stand{stand("flaw"), stand("claim")}})
	parses(t, "every 5\nflaw every 4", api.Checker{Every: 5, Flaws: []api.Flaw{flaw("every", 4)}})
}

func TestRead(t *testing.T) {
	reads(t, hall(), hallLogText, hallLog())
	reads(t, hall(), strings.TrimSuffix(hallLogText, "\n"), hallLog())
	reads(t, hall(), "", nil)
	reads(t, eye(), "5 bottle 1000000 999 out", []api.Run{bottle(5, api.MaxLotNo, api.MaxNumber, true)})
	// a station and a class may have the same name
	c := eye()
	c.Stands[0].Name = "crack"
	reads(t, c, "5 sample crack crack missed\n", []api.Run{sample(5, 0, 0, false)})
}

// TestThereAndBack: the texts of a line of inspection and of a log are read as they were (P7.8).
func TestThereAndBack(t *testing.T) {
	r := newRand(71)
	entries := 0
	for range 2000 {
		c := someChecker(r)
		text, e := inspect.Print(c)
		equal(t, "error", e, api.OK)
		got, line, e := inspect.Parse(text)
		fine(t, "line", line, e, 0)
		equal(t, "same", inspect.Same(got, c), true)
		l := someLog(r, c)
		entries += len(l)
		text, e = inspect.Write(c, l)
		equal(t, "error", e, api.OK)
		reads(t, c, text, l)
	}
	if entries < 10000 {
		t.Fatal("too few entries", entries)
	}
}

// TestLongest: the longest texts there are are not too long.
func TestLongest(t *testing.T) {
	long := func(i int) string { return strings.Repeat("x", api.MaxName-1) + string(rune('a'+i)) }
	c := api.Checker{Every: api.MaxClock}
	for i := range api.MaxFlaws {
		c.Flaws = append(c.Flaws, flaw(long(i), api.MaxStands))
	}
	for i := range api.MaxStands {
		x := stand(long(i))
		for class := range api.MaxFlaws {
			x.Claims = append(x.Claims, claim(class, api.MaxOf, api.MaxOf))
		}
		c.Stands = append(c.Stands, x)
	}
	text, e := inspect.Print(c)
	equal(t, "error", e, api.OK)
	parses(t, text, c)
	var l []api.Run
	for i := range api.MaxRuns {
		l = append(l, sample(api.MaxClock, i%api.MaxStands, i%api.MaxFlaws, false))
	}
	text, e = inspect.Write(c, l)
	equal(t, "error", e, api.OK)
	reads(t, c, text, l)
}

// parseFails checks that a text has this error at this line, and gives nothing.
func parseFails(t *testing.T, text string, line int, e api.Errno) {
	t.Helper()
	c, gotLine, got := inspect.Parse(text)
	if gotLine != line || !onlyError([]any{c, got}, e) {
		t.Errorf("%.200q: got %v, line %d, error %d; want line %d, error %d", text, c, gotLine, got, line, e)
	}
}

// readFails checks that the text of a log of hall has this error at this line, and gives nothing.
func readFails(t *testing.T, text string, line int, e api.Errno) {
	t.Helper()
	l, gotLine, got := inspect.Read(hall(), text)
	if gotLine != line || !onlyError([]any{l, got}, e) {
		t.Errorf("%.200q: got %v, line %d, error %d; want line %d, error %d", text, l, gotLine, got, line, e)
	}
}

// badNumbers are words, or what may stand in the place of one, that are no numbers of a text.
func badNumbers() []string {
	return []string{"", "01", "+1", "-0", "00", "1.0", "0x1", "1_0", "-", "1e3", "1\r", "\t1", "x", "\xff", "10000000000", "-10000000000", "00000000001", "99999999999999999999", "--1", " 1", "1 ", "1:2"}
}

func TestParseForms(t *testing.T) {
	lines := []string{"every 100", "flaw crack 1", "station eye", "claim crack 1 50"}
	if _, _, e := inspect.Parse(strings.Join(lines, "\n")); e != api.OK {
		t.Fatal(e)
	}
	forms := [][]string{
		{"", " ", "\r", "every", "every ", "every 1 2", "every  1", " every 1", "every 1 ", "Every 1", "everys 1", "every\t1", "1", "flaw crack 1", "station eye", "claim crack 1 50"},
		{"", " ", "flaw", "flaw ", "flaw crack", "flaw 1", "flaw crack 1 2", "flaw crack  1", " flaw crack 1", "flaw crack 1 ", "flaws crack 1", "Flaw crack 1", "flaw\tcrack 1", "every 100", "claim crack 1 50", "claim none 1 50"},
		{"", " ", "station", "station ", "station eye ", "station eye 1", "station  eye", " station eye", "stations eye", "Station eye", "station\teye", "every 100", "claim crack 1 50", "claim none 1 50"},
		{"", " ", "claim", "claim ", "claim crack", "claim crack 1", "claim crack 1 50 2", "claim  crack 1 50", "claim crack 1  50", " claim crack 1 50", "claim crack 1 50 ", "claims crack 1 50", "Claim crack 1 50", "claim\tcrack 1 50", "every 100", "flaw stone 1", "claim none 1", "claim none 1 50 2"},
	}
	for _, n := range badNumbers() {
		forms[0] = append(forms[0], "every "+n)
		forms[1] = append(forms[1], "flaw crack "+n)
		forms[3] = append(forms[3], "claim crack "+n+" 50", "claim crack 1 "+n, "claim none "+n+" 50", "claim none 1 "+n)
	}
	for i, all := range forms {
		for _, form := range all {
			changed := append(slices.Clone(lines[:i]), form)
			// a line that is wrong decides before whatever comes behind it, and before Check
			parseFails(t, strings.Join(changed, "\n")+"\nclaim none 1 50\n", i+1, api.ErrForm)
			changed = append(changed, lines[i:]...)
			parseFails(t, strings.Join(changed, "\n")+"\n", i+1, api.ErrForm)
		}
	}
}

func TestParseOrder(t *testing.T) {
	parseFails(t, "", 0, api.ErrForm)
	parseFails(t, "\n", 1, api.ErrForm)
	parseFails(t, "\n"+hallText, 1, api.ErrForm)
	parseFails(t, hallText+"\n", 15, api.ErrForm)
	parseFails(t, hallText+" ", 15, api.ErrForm)
	parseFails(t, "every 1\nevery 1\n", 2, api.ErrForm)
	parseFails(t, hallText+"every 100\n", 15, api.ErrForm)
	parseFails(t, hallText+"flaw warp 1\n", 15, api.ErrForm)
	parseFails(t, "every 1\nflaw a 1\nstation p\nflaw b 1\n", 4, api.ErrForm)
	parseFails(t, "every 1\nstation p\nstation q\nclaim a 1 2\n", 4, api.ErrNone)
	parseFails(t, "every 1\nflaw a 1\nclaim a 1 2\nstation p\n", 3, api.ErrForm)
	parseFails(t, "every 0\nflaw A 9\nx", 3, api.ErrForm)
}

// TestParseClaims: a claim's class is one of the text (P7.1).
func TestParseClaims(t *testing.T) {
	head := "every 1\nflaw crack 1\nflaw stone 2\nstation eye\n"
	for _, name := range []string{"a", "cracks", "crac", "Crack", "eye", "1", "-", "crack\r", "\xff", strings.Repeat("x", 100)} {
		row := "claim " + name + " 1 50\n"
		parseFails(t, head+row, 5, api.ErrNone)
		parseFails(t, head+"claim stone 1 50\n"+row+"claim\n", 6, api.ErrNone)
		parseFails(t, "every 0\nstation A\n"+row, 3, api.ErrNone)
	}
	c, _, e := inspect.Parse(head + "claim stone 1 50\nclaim crack 2 60\n")
	list(t, "claims", c.Stands[0].Claims, e, []api.Claim{claim(1, 1, 50), claim(0, 2, 60)})
	// that the first one is meant shows in no result: two classes with a name are Check's error
	parseFails(t, "every 1\nflaw crack 1\nflaw crack 2\nstation eye\nclaim crack 1 50\n", 0, api.ErrTwice)
	// names that none may have are those of classes in a text
	parseFails(t, "every 1\nflaw \xff\r 1\nstation 7\nclaim \xff\r 1 50\n", 0, api.ErrName)
}

// TestParseCheck: a text that is of the form gives Check's error, without a line.
func TestParseCheck(t *testing.T) {
	head := "every 1\nflaw crack 1\nstation eye\n"
	for text, want := range map[string]api.Errno{
		"every 0":                                         api.ErrArg,
		"every -9999999999\n":                             api.ErrArg,
		"every 9999999999\n":                              api.ErrArg,
		"every 1000000001\n":                              api.ErrArg,
		"every 1\nflaw Crack 1":                           api.ErrName,
		"every 1\nflaw crack 5":                           api.ErrArg,
		"every 1\nflaw crack -1":                          api.ErrArg,
		"every 1\nflaw crack 1\nflaw crack 1":             api.ErrTwice,
		"every 1\n" + strings.Repeat("flaw crack 1\n", 9): api.ErrLimit,
		head + strings.Repeat("station eye\n", 4):         api.ErrLimit,
		head + "station eye":                              api.ErrTwice,
		head + "station 7":                                api.ErrName,
		head + strings.Repeat("claim crack 1 2\n", 9):     api.ErrLimit,
		head + "claim crack 1 2\nclaim crack 1 2":         api.ErrTwice,
		head + "claim crack 3 2":                          api.ErrArg,
		head + "claim crack 0 0":                          api.ErrArg,
		head + "claim crack -1 5":                         api.ErrArg,
		head + "claim crack 1 1001":                       api.ErrArg,
	} {
		parseFails(t, text, 0, want)
	}
}

func TestParseLimit(t *testing.T) {
	parseFails(t, strings.Repeat("x", api.MaxText), 1, api.ErrForm)
	parseFails(t, strings.Repeat("x", api.MaxText+1), 0, api.ErrLimit)
	parseFails(t, hallText+strings.Repeat("\n", api.MaxText), 0, api.ErrLimit)
	// a text that is as long as may be, and of the form
	long := "every 1\n" + strings.Repeat("flaw abc 1\n", 5957) + "\n"
	long = strings.Replace(long, "abc 1\n\n", strings.Repeat("a", api.MaxText-len(long)+4)+" 1\n", 1)
	equal(t, "length", len(long), api.MaxText)
	parseFails(t, long, 0, api.ErrLimit)
	parseFails(t, strings.Replace(long, "every 1\n", "every 0\n", 1), 0, api.ErrArg)
	parseFails(t, strings.Replace(long, "every 1\n", "every 00\n", 1), 0, api.ErrLimit)
}

func TestReadForms(t *testing.T) {
	lines := []string{"5 bottle 7 11 pass", "6 sample eye crack found"}
	reads(t, hall(), strings.Join(lines, "\n"), []api.Run{bottle(5, 7, 11, false), sample(6, eyes, crack, true)})
	forms := []string{
		"", " ", "\r", "5", "5 ", "5 bottle", "5 sample", "bottle", "bottle 7 11 pass", "5 7 11 pass",
		"5 bottle 7 11", "5 bottle 7 11 ", "5 bottle 7 11 pass ", "5 bottle 7 11 pass 1", "5 bottle 7 11 found", "5 bottle 7 11 missed", "5 bottle 7 11 Pass", "5 bottle 7 11 pass\r", "5 bottle  11 pass", " 5 bottle 7 11 pass", "5  bottle 7 11 pass",
		"5 Bottle 7 11 pass", "5 bottles 7 11 pass", "5\tbottle 7 11 pass", "5 bottle eye crack pass", "5 every 7 11 pass", "5 flaw 7 11 pass",
		"5 sample eye crack", "5 sample eye crack ", "5 sample eye crack found ", "5 sample eye crack found 1", "5 sample eye crack pass", "5 sample eye crack out", "5 sample eye crack Found", "5 sample eye crack found\r", "5 sample  crack found", "5 sample eye  found",
		"5 Sample eye crack found", "5 samples eye crack found", "5 sample\teye crack found", "5 challenge eye crack found",
		// of a line the form comes ahead of the names
		"5 sample none none pass", "5 sample none crack", "x sample none crack found", "05 sample eye none found",
	}
	for _, n := range badNumbers() {
		forms = append(forms, n+" bottle 7 11 pass", n+" sample eye crack found", "5 bottle "+n+" 11 pass", "5 bottle 7 "+n+" out")
	}
	for _, form := range forms {
		for i := range len(lines) + 1 {
			// a line that is wrong decides before whatever comes behind it, and before CheckLog
			changed := slices.Insert(slices.Clone(lines), i, form)
			readFails(t, strings.Join(changed, "\n")+"\n", i+1, api.ErrForm)
			readFails(t, strings.Join(changed, "\n")+"\n5 sample none crack found\n1 bottle 7 11 pass\n", i+1, api.ErrForm)
			changed[0] = "9999999999 bottle -5 9999999999 out"
			if i > 0 {
				readFails(t, strings.Join(changed, "\n")+"\n", i+1, api.ErrForm)
			}
		}
	}
}

// TestReadNames: the station and the class of a sample are those of the line of inspection (P7.1).
func TestReadNames(t *testing.T) {
	head := "9 bottle 7 11 pass\n"
	for _, names := range []string{"none crack", "eye none", "none none", "crack eye", "Eye crack", "eyes crack", "eye crac", "eye crack\r", "\xff \x00", "7 11", "- -", strings.Repeat("x", 99) + " crack"} {
		row := "5 sample " + names + " found\n"
		readFails(t, row, 1, api.ErrNone)
		readFails(t, head+row+"x\n", 2, api.ErrNone)
		readFails(t, "9999999999 bottle 7 11 pass\n"+row, 2, api.ErrNone)
	}
}

// TestReadErrors: the line of inspection comes first, then how long the text is, then its lines, then CheckLog.
func TestReadErrors(t *testing.T) {
	errors := append(wrongCheckers(),
		wrong{api.ErrLimit, func(c *call) { c.log += strings.Repeat("\n", api.MaxText) }},
		wrong{api.ErrLimit, func(c *call) { c.log = strings.Repeat(c.log, 1+api.MaxRuns/17) }},
		wrong{api.ErrArg, func(c *call) { c.log = "-1 bottle 7 11 pass\n" + c.log }},
	)
	inOrder(t, "Read", errors, func(c call) []any {
		l, line, e := inspect.Read(c.c, c.log)
		return []any{l, line, e}
	})
	for text, want := range map[string]api.Errno{
		"1000000001 bottle 7 11 pass":                     api.ErrArg,
		"-1 sample eye crack found":                       api.ErrArg,
		"9 bottle 7 11 pass\n8 bottle 7 11 pass":          api.ErrState,
		"9 bottle -1 11 pass":                             api.ErrArg,
		"9 bottle 1000001 11 pass":                        api.ErrArg,
		"9 bottle 7 -1 out":                               api.ErrArg,
		"9 bottle 7 1000 out":                             api.ErrArg,
		"9 sample touch crack found":                      api.ErrScope,
		"9 sample eye tint missed":                        api.ErrScope,
		strings.Repeat("9 bottle 7 11 pass\n", 513):       api.ErrLimit,
		strings.Repeat("9999999999 bottle 7 1 out\n", 99): api.ErrArg,
	} {
		readFails(t, text, 0, want)
	}
	reads(t, hall(), strings.Repeat("9 bottle 7 11 pass\n", 512), slices.Repeat([]api.Run{bottle(9, 7, 11, false)}, 512))
	// a text that is as long as may be
	long := strings.Repeat("9 bottle 7 11 pass\n", 3449) + "9 out"
	equal(t, "length", len(long), api.MaxText)
	readFails(t, long, 3450, api.ErrForm)
	readFails(t, long+"\n", 0, api.ErrLimit)
}

// TestSame: lines of inspection are the same just if they are equal in each field (P7.1).
func TestSame(t *testing.T) {
	for i, change := range []func(*api.Checker){
		func(c *api.Checker) { c.Every++ },
		func(c *api.Checker) { c.Flaws = c.Flaws[:2] },
		func(c *api.Checker) { c.Flaws = nil },
		func(c *api.Checker) { c.Flaws[2].Name = "tin" },
		func(c *api.Checker) { c.Flaws[2].Need++ },
		func(c *api.Checker) { c.Flaws[0], c.Flaws[1] = c.Flaws[1], c.Flaws[0] },
		func(c *api.Checker) { c.Stands = c.Stands[:3] },
		func(c *api.Checker) { c.Stands = nil },
		func(c *api.Checker) { c.Stands[3].Name = "" },
		func(c *api.Checker) { c.Stands[2], c.Stands[3] = c.Stands[3], c.Stands[2] },
		func(c *api.Checker) { c.Stands[3].Claims = c.Stands[3].Claims[:1] },
		func(c *api.Checker) { c.Stands[3].Claims = nil },
		func(c *api.Checker) { c.Stands[3].Claims[1].Class = 1 },
		func(c *api.Checker) { c.Stands[3].Claims[1].Miss++ },
		func(c *api.Checker) { c.Stands[3].Claims[1].Of++ },
		func(c *api.Checker) { slices.Reverse(c.Stands[3].Claims) },
	} {
		c := hall()
		change(&c)
		if inspect.Same(c, hall()) || inspect.Same(hall(), c) {
			t.Error("the same in spite of change", i)
		}
		equal(t, "itself", inspect.Same(c, c), true)
	}
	equal(t, "equal", inspect.Same(hall(), hall()), true)
	equal(t, "nothing", inspect.Same(api.Checker{}, api.Checker{}), true)
	a := api.Checker{Every: -7, Stands: []api.Stand{{Name: "A"}}}
	b := api.Checker{Every: -7, Flaws: []api.Flaw{}, Stands: []api.Stand{{Name: "A", Claims: []api.Claim{}}}}
	equal(t, "empty", inspect.Same(a, b), true)
}
