package furnace_test

import (
	"math/rand"
	"strings"
	"testing"

	"cullet/api"
	"cullet/furnace"
)

const twoText = "modes day\nzone melt 100\nzone nose 50\nstream - melt 10\nstream melt nose 20\nstream nose melt 10\nstream nose - 10\n"

const fullText = "modes day rest full-2\nzone melt 100\nzone nose 50\nstream - melt 10 0 50\nstream melt nose 20 0 50\nstream nose melt 10 0 0\nstream nose - 10 0 50\n"

func TestPrint(t *testing.T) {
	small := api.Furnace{Zones: []api.Zone{{Name: "modes", Hold: api.MaxHold}}, Modes: []string{"zone"}, Streams: []api.Stream{}}
	for want, f := range map[string]api.Furnace{twoText: two(), fullText: full(), "modes zone\nzone modes 1000000\n": small} {
		got, e := furnace.Print(f)
		equal(t, "error", e, api.OK)
		equal(t, "text", got, want)
	}
}

func TestParse(t *testing.T) {
	small := api.Furnace{Zones: []api.Zone{{Name: "stream", Hold: 1}}, Modes: []string{"modes"}}
	for text, want := range map[string]api.Furnace{twoText: two(), fullText: full(), strings.TrimSuffix(twoText, "\n"): two(), "modes modes\nzone stream 1": small} {
		got, line, e := furnace.Parse(text)
		equal(t, "error", e, api.OK)
		equal(t, "line", line, 0)
		equal(t, "furnace", got, want)
	}
}

// TestParsePrinted: what is printed is parsed as it was.
func TestParsePrinted(t *testing.T) {
	r := rand.New(rand.NewSource(51))
	for range 1000 {
		f := some(r)
		text, e := furnace.Print(f)
		equal(t, "error", e, api.OK)
		got, line, e := furnace.Parse(text)
		equal(t, "error", e, api.OK)
		equal(t, "line", line, 0)
		equal(t, "furnace", got, f)
	}
}

// parseFails tells that a text has this error at this line, and gives nothing.
func parseFails(t *testing.T, text string, line int, e api.Errno) {
	t.Helper()
	f, gotLine, got := furnace.Parse(text)
	if gotLine != line || !onlyError([]any{f, got}, e) {
		t.Errorf("%.80q: got %v, line %d, error %d; want line %d, error %d", text, f, gotLine, got, line, e)
	}
}

func TestParseForms(t *testing.T) {
	lines := []string{"modes a", "zone z 1", "stream - z 1", "stream z - 1"}
	if _, _, e := furnace.Parse(strings.Join(lines, "\n")); e != api.OK {
		t.Fatal(e)
	}
	numbers := []string{"", "01", "+1", "-0", "00", "1.0", "0x1", "1_0", "-", "1e3", "1\r", "\t1", "x", "\xff", "10000000000", "-10000000000", "00000000001", "99999999999999999999", "--1", " 1"}
	forms := [][]string{
		{"", " ", "modes  a", "modes ", " modes a", "modes a ", "mode a", "Modes a", "modes\ta", "\r"},
		{"", " ", "zone", "zone ", "zone z", "zone z ", "zone z 1 1", "zone  1", "zone z  1", " zone z 1", "zone z 1 ", "Zone z 1", "zones z 1", "zone\tz 1", "\x00"},
		{"", "stream", "stream -", "stream ", "stream - ", "stream - z ", "stream  z 1", "stream - z  1", "stream -  z 1", "streams - z 1", "stream\t- z 1", "stream - z 1 x"},
	}
	for _, n := range numbers {
		forms[1] = append(forms[1], "zone z "+n)
		forms[2] = append(forms[2], "stream - z "+n, "stream - z 1 "+n, "stream - none "+n, "stream none z "+n)
	}
	for i, list := range forms {
		for _, form := range list {
			changed := append([]string{}, lines...)
			changed[i] = form
			parseFails(t, strings.Join(changed, "\n")+"\n", i+1, api.ErrForm)
			// a line that is wrong decides before whatever comes behind it, and before Check
			parseFails(t, strings.Join(changed[:i+1], "\n")+"\nzone\n", i+1, api.ErrForm)
		}
	}
}

func TestParseOrder(t *testing.T) {
	parseFails(t, "", 0, api.ErrForm)
	parseFails(t, "\n", 1, api.ErrForm)
	parseFails(t, "zone z 1\nmodes a\n", 1, api.ErrForm)
	parseFails(t, "stream - - 1\n", 1, api.ErrForm)
	parseFails(t, "stream a b 1\n", 1, api.ErrForm)
	parseFails(t, "\nmodes a\nzone z 1\n", 1, api.ErrForm)
	parseFails(t, "modes a\nmodes a\nzone z 1\n", 2, api.ErrForm)
	parseFails(t, "modes a\nzone z 1\nmodes\n", 3, api.ErrForm)
	parseFails(t, twoText+"modes day\n", 8, api.ErrForm)
	parseFails(t, twoText+"zone back 1\n", 8, api.ErrForm)
	parseFails(t, "modes a\nzone z 1\nstream - z 1\nzone y 1\n", 4, api.ErrForm)
	parseFails(t, twoText+"\n", 8, api.ErrForm)
	parseFails(t, twoText+" ", 8, api.ErrForm)
}

func TestParsePlaces(t *testing.T) {
	head := "modes a\nzone z 1\nzone y 1\n"
	for _, line := range []string{"stream x z 1", "stream z x 1", "stream x x 1", "stream Z z 1", "stream - a 1", "stream -1 z 1", "stream 0 z 1", "stream z 1 1", "stream -- z", "stream z\r - 1"} {
		parseFails(t, head+line+"\n", 4, api.ErrNone)
		parseFails(t, head+"stream - z 1\n"+line+"\nzone x 1\n", 5, api.ErrNone)
	}
	// the first zone with a name is meant; one that is named - cannot be meant at all
	parseFails(t, "modes a\nzone z 1\nzone z 1\nstream - z 1\n", 0, api.ErrTwice)
	parseFails(t, "modes a\nzone - 1\nstream - - 1\n", 0, api.ErrName)
}

// TestParseCheck: a text that is of the form gives Check's error, without a line.
func TestParseCheck(t *testing.T) {
	for text, want := range map[string]api.Errno{
		"modes":                                         api.ErrArg,
		"modes\nzone z 1\n":                             api.ErrArg,
		"modes a\n":                                     api.ErrArg,
		"modes a\nzone A 1\n":                           api.ErrName,
		"modes a\nzone z\t 1\n":                         api.ErrName,
		"modes a\nzone 7 7\n":                           api.ErrName,
		"modes a\nzone z 0\n":                           api.ErrArg,
		"modes a\nzone z -9999999999\n":                 api.ErrArg,
		"modes a\nzone z 9999999999\n":                  api.ErrArg,
		"modes a a\nzone z 1\n":                         api.ErrTwice,
		"modes a \r\nzone z 1\n":                        api.ErrName,
		"modes a b c d e f g\nzone z 1\n":               api.ErrLimit,
		"modes a\nzone z 1\nstream - -\n":               api.ErrArg,
		"modes a\nzone z 1\nstream - - 1\n":             api.ErrArg,
		"modes a\nzone z 1\nstream z z 1\n":             api.ErrArg,
		"modes a\nzone z 1\nstream - z\n":               api.ErrArg,
		"modes a\nzone z 1\nstream - z 1 1":             api.ErrArg,
		"modes a\nzone z 1\nstream - z -1":              api.ErrArg,
		"modes a\nzone z 1\nstream - z 1":               api.ErrSum,
		"modes a\nzone z 1\nstream - z 2\nstream z - 2": api.ErrScope,
	} {
		parseFails(t, text, 0, want)
	}
	parseFails(t, "modes a\n"+strings.Repeat("zone z 1\n", api.MaxZones+1), 0, api.ErrLimit)
	parseFails(t, "modes a\nzone z 1\n"+strings.Repeat("stream - z 0\n", api.MaxStreams+1), 0, api.ErrLimit)
}

func TestParseLimit(t *testing.T) {
	parseFails(t, strings.Repeat("x", api.MaxText), 1, api.ErrForm)
	parseFails(t, strings.Repeat("x", api.MaxText+1), 0, api.ErrLimit)
	parseFails(t, twoText+strings.Repeat("\n", api.MaxText), 0, api.ErrLimit)
	// a text that is as long as may be, and of the form
	head := "modes "
	long := head + strings.Repeat("b", api.MaxText-len(head))
	parseFails(t, long, 0, api.ErrArg)
	parseFails(t, long+"\n", 0, api.ErrLimit)
}
