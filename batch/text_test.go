package batch_test

import (
	"math/rand"
	"strconv"
	"strings"
	"testing"

	"cullet/api"
	"cullet/batch"
)

const mixText = "oxides si na\nwanted 100\nredox -9999 9999\nshares 700 800 200 300\nmaterial sand 1 0 0 200 20 980 1000 0 0\nmaterial soda 4 0 0 100 20 0 0 570 580\n"

const fullText = "oxides si na\nwanted 100\nredox -9999 9999\nshares 700 800 200 300\nmaterial sand 1 -3 0 200 20 980 1000 0 0\nmaterial soda 4 7 0 100 20 0 0 570 580\nproperty melt 5 20 17 -8\nproperty bright-2 -10000 10000 -10000 10000\n"

func TestPrint(t *testing.T) {
	for want, b := range map[string]api.Batch{mixText: mix(), fullText: full()} {
		got, e := batch.Print(b)
		equal(t, "error", e, api.OK)
		equal(t, "text", got, want)
	}
}

func TestParse(t *testing.T) {
	for text, want := range map[string]api.Batch{mixText: mix(), fullText: full(), strings.TrimSuffix(mixText, "\n"): mix()} {
		got, line, e := batch.Parse(text)
		equal(t, "error", e, api.OK)
		equal(t, "line", line, 0)
		equal(t, "batch", got, want)
	}
}

// TestParsePrinted: what is printed is parsed as it was.
func TestParsePrinted(t *testing.T) {
	r := rand.New(rand.NewSource(51))
	for range 500 {
		b := some(r)
		text, e := batch.Print(b)
		equal(t, "error", e, api.OK)
		got, line, e := batch.Parse(text)
		equal(t, "error", e, api.OK)
		equal(t, "line", line, 0)
		equal(t, "batch", got, b)
	}
	b, _ := greatest(-1)
	text, e := batch.Print(b)
	equal(t, "error", e, api.OK)
	got, _, e := batch.Parse(text)
	equal(t, "error", e, api.OK)
	equal(t, "batch", got, b)
}

// parseFails tells that a text has this error at this line, and gives nothing.
func parseFails(t *testing.T, text string, line int, e api.Errno) {
	t.Helper()
	b, gotLine, got := batch.Parse(text)
	if gotLine != line || !onlyError([]any{b, got}, e) {
		t.Errorf("%.80q: got %v, line %d, error %d; want line %d, error %d", text, b, gotLine, got, line, e)
	}
}

func TestParseForms(t *testing.T) {
	head := []string{"oxides a", "wanted 1", "redox 0 0", "shares 0 0"}
	rest := []string{"material m 0 0 0 0 1 0 0", "property p 0 0 0"}
	lines := append(append([]string{}, head...), rest...)
	if _, _, e := batch.Parse(strings.Join(lines, "\n")); e != api.OK {
		t.Fatal(e)
	}
	for i, forms := range [][]string{
		{"", " ", "oxides  a", "oxides ", " oxides a", "oxides a ", "oxide a", "Oxides a", "oxides\ta"},
		{"wanted", "wanted 1 2", "wanted x", "wanted 01", "wanted +1", "wanted -0", "wanted 1000000", "wanted -1000000", "wanted 1.0", "wanted 0x1", "wanted 1_0", "wanted 99999999999999999999", "wanted -", "wanted  1", "wanted 1\r"},
		{"redox", "redox 0", "redox 0 0 0", "redox a 0", "redox 0 --1", "redox 0 0 "},
		{"shares 0", "shares 0 0 0", "shares 0 a", "shares 00 0", "shares\t0 0", "shares 0 \xff"},
		{"material", "material m", "material m 0 0 0 0", "material m 0 0 0 0 1 0", "material m 0 0 0 0 1 0 0 0", "material m 0 0 0 0 x 0 0", "material m x 0 0 0 1", "material m 0 0 0 0 1 0 x", "material  0 0 0 0 1"},
		{"property", "property p", "property p 0", "property p 0 x", "property p x 0", "property p 0 0 x", "property p 0 0 +1", "property  0 0 0", "properties p 0 0", "\x00"},
	} {
		for _, form := range forms {
			changed := append([]string{}, lines...)
			changed[i] = form
			parseFails(t, strings.Join(changed, "\n")+"\n", i+1, api.ErrForm)
			// a line that is wrong decides before whatever comes behind it, and before Check
			parseFails(t, strings.Join(changed[:i+1], "\n")+"\nmaterial\n", i+1, api.ErrForm)
		}
	}
}

func TestParseOrder(t *testing.T) {
	lines := strings.SplitAfter(fullText, "\n")[:8]
	// each of the first four once: neither twice, nor left out, nor late
	for i := range 4 {
		twice := strings.Join(lines[:i+1], "") + lines[i] + strings.Join(lines[i+1:], "")
		parseFails(t, twice, i+2, api.ErrForm)
		parseFails(t, fullText+lines[i], 9, api.ErrForm)
		without := strings.Join(lines[:i], "") + strings.Join(lines[i+1:], "")
		parseFails(t, without, i+1, api.ErrForm)
		parseFails(t, strings.Join(lines[:i], ""), 0, api.ErrForm)
		late := strings.Join(lines[:i], "") + lines[i+1] + lines[i]
		parseFails(t, late, i+1, api.ErrForm)
		parseFails(t, strings.Join(lines[:i], "")+lines[6], i+1, api.ErrForm)
		parseFails(t, strings.Join(lines[:i], "")+"\n", i+1, api.ErrForm)
	}
	parseFails(t, strings.Join(lines[:7], "")+lines[4], 8, api.ErrForm) // a material behind a property
	parseFails(t, fullText+"\n", 9, api.ErrForm)
	parseFails(t, fullText+" ", 9, api.ErrForm)
}

// TestParseCheck: a text that is of the form gives Check's error, without a line.
func TestParseCheck(t *testing.T) {
	for text, want := range map[string]api.Errno{
		"oxides\nwanted 1\nredox 0 0\nshares\n":                                                             api.ErrArg,
		"oxides A\nwanted 1\nredox 0 0\nshares\n":                                                           api.ErrName,
		"oxides a a\nwanted 1\nredox 0 0\nshares\n":                                                         api.ErrTwice,
		"oxides a b c d e f g h i j k l m\nwanted 1\nredox 0 0\nshares\n":                                   api.ErrLimit,
		"oxides a\nwanted 1\nredox 0 0\nshares 0 0\n":                                                       api.ErrArg,
		"oxides a\nwanted 1\nredox 0 0\nshares 0 0\nmaterial - 0 0 0 0 1\n":                                 api.ErrName,
		"oxides a\nwanted 1\nredox 0 0\nshares 0 0\nmaterial m 0 0 0 0 1\n":                                 api.ErrArg,
		"oxides a\nwanted 999999\nredox 0 0\nshares 0 0\nmaterial m 0 0 0 0 1 0 0\n":                        api.ErrArg,
		"oxides a\nwanted -999999\nredox 0 0\nshares 0 0\nmaterial m 0 0 0 0 1 0 0\n":                       api.ErrArg,
		"oxides a\nwanted 1\nredox 0 0\nshares 0 0 0 0\nmaterial m 0 0 0 0 1 0 0\n":                         api.ErrArg,
		"oxides a b\nwanted 1\nredox 0 0\nshares 0 0 0 0\nmaterial m 0 0 0 0 1 600 600 600 600\n":           api.ErrSum,
		"oxides a\nwanted 1\nredox 0 0\nshares 0 0\nmaterial m 0 0 0 0 1 0 0\nmaterial m 0 0 0 0 1\n":       api.ErrTwice,
		"oxides a\nwanted 1\nredox 0 0\nshares 0 0\nmaterial m 0 0 0 0 1 0 0\nproperty p 0 0\n":             api.ErrArg,
		"oxides a\nwanted 1\nredox 0 0\nshares 0 0\nmaterial m 0 0 0 0 1 0 0\nproperty a\tb\r 0 0 0":        api.ErrName,
		"oxides a\nwanted 1\nredox 0 0\nshares 0 0\nmaterial wanted 0 0 0 0 1 0 0\nproperty property 0 0 0": api.OK,
	} {
		if want == api.OK {
			_, line, e := batch.Parse(text)
			equal(t, "line", line, 0)
			equal(t, "error", e, api.OK)
			continue
		}
		parseFails(t, text, 0, want)
	}
}

func TestParseLimit(t *testing.T) {
	parseFails(t, strings.Repeat("x", api.MaxText), 1, api.ErrForm)
	parseFails(t, strings.Repeat("x", api.MaxText+1), 0, api.ErrLimit)
	parseFails(t, mixText+strings.Repeat("\n", api.MaxText), 0, api.ErrLimit)
	// a text that is as long as may be, and of the form
	long := "oxides " + strings.Repeat("a ", 100)
	long += strings.Repeat("b", api.MaxText-len(long)-len("\nwanted 1\nredox 0 0\nshares\n")) + "\nwanted 1\nredox 0 0\nshares\n"
	equal(t, "length", len(long), api.MaxText)
	parseFails(t, long, 0, api.ErrLimit) // Check's
	var lines []string
	for i := range 4000 {
		lines = append(lines, "property p"+strconv.Itoa(i)+" 0 0")
	}
	parseFails(t, "oxides a\nwanted 1\nredox 0 0\nshares 0 0\nmaterial m 0 0 0 0 1 0 0\n"+strings.Join(lines[:3000], "\n"), 0, api.ErrLimit)
	parseFails(t, "", 0, api.ErrForm)
}
