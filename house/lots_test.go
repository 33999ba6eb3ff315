package house_test

import (
	"strings"
	"testing"

	"cullet/api"
)

// TestEntry: an entry stands behind those of its log, if it may (P10.2).
func TestEntry(t *testing.T) {
	h := works(t, block("log", "x c", ""))
	answers(t, h, "entry l 700 sample eye crack found", "l: 12 entries")
	answers(t, h, "entry l 1000000000 bottle 1000000 999 out", "l: 13 entries")
	answers(t, h, "entry x 5 bottle 3 0 pass", "x: 1 entries")
	for line, want := range map[string]api.Errno{
		"entry x 5":                          api.ErrForm,
		"entry x x":                          api.ErrForm,
		"entry x 5 bottle 3 0 found":         api.ErrForm,
		"entry x 5 bottle 3 0 pass pass":     api.ErrForm,
		"entry x 05 bottle 3 0 pass":         api.ErrForm,
		"entry x 5 sample eye crack pass":    api.ErrForm,
		"entry x every 1000":                 api.ErrForm,
		"entry x 5 sample eye warp found":    api.ErrNone,
		"entry x 5 sample ear crack found":   api.ErrNone,
		"entry x -1 bottle 3 0 pass":         api.ErrArg,
		"entry x 1000000001 bottle 3 0 pass": api.ErrArg,
		"entry x 5 bottle 3 1000 pass":       api.ErrArg,
		"entry x 5 bottle 1000001 0 pass":    api.ErrArg,
		"entry x 4 bottle 3 0 pass":          api.ErrState,
		"entry l 999999999 bottle 3 0 pass":  api.ErrState,
		"entry c 5 bottle 3 0 pass":          api.ErrNone,
	} {
		refuses(t, h, line, want)
	}
	answers(t, h, "judge x", "clear:; blocked: 3; open:")
	h = works(t, block("line", "d", "every 9\nflaw crack 0\nflaw warp 0\nstation eye\nclaim crack 1 50\n"), block("log", "y d", ""))
	refuses(t, h, "entry y 5 sample eye warp found", api.ErrScope)
	answers(t, h, "entry y 5 sample eye crack found", "y: 1 entries")
}

// TestManyEntries: a log has MaxRuns entries at most, and its text with one more must not be too long (P10.2).
func TestManyEntries(t *testing.T) {
	h := works(t, block("log", "x c", strings.Repeat("5 bottle 3 0 pass\n", api.MaxRuns-1)))
	line := "entry x 5 bottle 3 " + strings.Repeat("0", api.MaxText)
	refuses(t, h, line[:api.MaxText], api.ErrLimit)
	refuses(t, h, line[:20000], api.ErrForm)
	answers(t, h, "entry x 5 bottle 3 0 pass", "x: 512 entries")
	refuses(t, h, "entry x 5 bottle 3 0 pass", api.ErrLimit)
	refuses(t, h, "entry x -1 bottle 3 0 pass", api.ErrLimit)
	refuses(t, h, "entry x 5 bottle 3 0", api.ErrForm)
	// the text of a log that is full, and of a line that just makes it too long: one byte less is not of the form
	room := api.MaxText - api.MaxRuns*len("5 bottle 3 0 pass\n") - 1
	refuses(t, h, "entry x "+strings.Repeat("5", room), api.ErrForm)
	refuses(t, h, "entry x "+strings.Repeat("5", room+1), api.ErrLimit)
}

// TestJudge: lots stand in three lists, of which each may be empty (P10.2).
func TestJudge(t *testing.T) {
	h := works(t)
	answers(t, h, "judge l", "clear: 1 6 7 8; blocked: 2; open: 3")
	for body, want := range map[string]string{
		"":                   "clear:; blocked:; open:",
		"5 bottle 3 0 out\n": "clear:; blocked:; open:",
		"5 bottle 9 0 pass\n5 bottle 10 0 pass\n": "clear:; blocked: 9 10; open:",
		"10 sample eye crack found\n20 bottle 7 0 pass\n60 sample eye crack found\n70 bottle 8 0 pass\n90 sample eye crack missed\n95 bottle 9 0 pass\n": "clear: 7; blocked: 8 9; open:",
	} {
		answers(t, works(t, block("log", "x c", body)), "judge x", want)
	}
}

// TestHold: holds gather at a shop, and keep back what a mould made (P10.2).
func TestHold(t *testing.T) {
	h := works(t, block("shop", "t", shopText))
	refuses(t, h, "hold s 13 0 5", api.ErrNone)
	refuses(t, h, "hold s 0 0 5", api.ErrNone)
	refuses(t, h, "hold s -1 0 5", api.ErrNone)
	answers(t, h, "hold s 11 0 9", "s: 1 holds")
	answers(t, h, "release l r s", "release: 6 7 8 [0]")
	answers(t, h, "release l r t", "release: 1 6 7 8 [1]")
	answers(t, h, "hold s 12 0 200", "s: 2 holds")
	answers(t, h, "release l r s", "release: 6 7 [2]")
	list(t, "holds", lastPaper(t, h).Holds, []api.Hold{{Mould: 0, From: 0, To: 9}, {Mould: 1, From: 0, To: 200}})
	for i := 3; i <= api.MaxHolds; i++ {
		answers(t, h, "hold s 12 1000 1000", "s: "+decimal(i)+" holds")
	}
	refuses(t, h, "hold s 12 1000 1000", api.ErrLimit)
	refuses(t, h, "hold s 13 1000 1000", api.ErrNone)
	answers(t, h, "hold t 12 1000 1000", "t: 1 holds")
}

// TestRelease: lots leave that are clear, and of which no bottle is held, with a paper, even if they are none (P10.2).
func TestRelease(t *testing.T) {
	h := works(t, block("log", "x c", ""))
	answers(t, h, "release l r s", "release: 1 6 7 8 [0]")
	answers(t, h, "release x r s", "release: [1]")
	list(t, "lots", lastPaper(t, h).Lots, nil)
	equal(t, "kind", lastPaper(t, h).Kind, api.PaRelease)
	// a hold with times that may not be spoils all that comes of its shop
	answers(t, h, "hold s 11 9 0", "s: 1 holds")
	refuses(t, h, "release l r s", api.ErrArg)
	refuses(t, h, "pack k l r s 4 7 180 180", api.ErrArg)
	answers(t, works(t, "switch r 0 stop 4", "hold s 11 0 9"), "release l r s", "release: 1 6 7 8 [0]")
}
