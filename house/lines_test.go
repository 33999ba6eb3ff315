package house_test

import (
	"slices"
	"strings"
	"testing"

	"cullet/api"
	"cullet/house"
)

// sample is a line that a works does, and what its words behind the first one are: a new name, a name, a number, or any word.
type sample struct{ line, places string }

// Places of words.
const (
	newOne  = 'N'
	name    = 'n'
	digit   = '0'
	anyWord = 'x'
)

// samples are lines of all kinds.
func samples() []sample {
	return []sample{
		{"best b", "n"}, {"glass b 80 60", "n00"}, {"change f day 60 b si 0 1000 80 60 100 60", "nx0nx000000"}, {"safe m", "n"}, {"run x m", "Nn"},
		{"switch r 0 stop 4", "n0x0"}, {"soonest r 0 stop 4", "n0x0"}, {"made r s 0 110", "nn00"}, {"worn r s 500", "nn0"}, {"trace r s 260 12", "nn00"}, {"culprits r s 260:0 310:11", "nnxx"},
		{"entry l 700 bottle 3 12 pass", "nxxxxx"}, {"judge l", "n"}, {"hold s 11 0 9", "n000"}, {"release l r s", "nnn"},
		{"post k 4 pull 0 0", "nxxxx"}, {"pack k l r s 4 7 180 180", "nnnn0000"}, {"share k 0", "n0"}, {"charge k b 5 8 4", "nn000"}, {"audit", ""},
	}
}

// closing is what lets a works do a sample of a line that needs more than a new one has.
func closing() (lines []string, line sample) {
	return lines7()[:2], sample{"certify k 6 7", "n00"}
}

// badNumbers are words that are no numbers of a script.
func badNumbers() []string {
	return []string{"01", "+1", "-0", "00", "1.0", "0x1", "1_0", "-", "1e3", "1\r", "\t1", "x", "\xff", "10000000000", "-10000000000", "00000000001", "99999999999999999999", "--1", "1:2"}
}

// badNames are words that are no names.
func badNames() []string {
	return []string{"B", "0", "1b", "-b", "b_", "b.", "bB", "b\r", "\tb", "\xff", "b\x00", "ä", "[0]", strings.Repeat("b", api.MaxName+1)}
}

// each does a test with each sample, and a function that makes a house that does it.
func each(t *testing.T, test func(x sample, h func() *house.House)) {
	t.Helper()
	for _, x := range samples() {
		test(x, func() *house.House { return works(t) })
	}
	lines, x := closing()
	test(x, func() *house.House { return works(t, lines...) })
}

// TestSamples: what the other tests here spoil is right.
func TestSamples(t *testing.T) {
	each(t, func(x sample, h func() *house.House) {
		without, e := h().Do(x.line)
		with, e2 := h().Do(x.line + "\n")
		if e != api.OK || e2 != api.OK || without == "" {
			t.Errorf("%q: errors %d and %d", x.line, e, e2)
		}
		equal(t, "with a line feed", with, without)
		equal(t, "words", len(strings.Split(x.line, " ")), 1+len(x.places))
	})
}

// TestForms: what is not a line of the table is not of the form (P10.2).
func TestForms(t *testing.T) {
	for _, line := range []string{"", "\n", " ", "\r", "\n\n", "#", "# best b", "audit\n\n", "\naudit", "audit\naudit", "audit\nend", "Audit", "audits", "audi", "audit\r\n", "AUDIT", "end", "end\n", "make", "make\n", "make book", "make book x", "make\nend", "best", "none b", "b best b", "\xff", "best b # it", "[0]", "error 4", "certified"} {
		fails(t, line, api.ErrForm)
	}
	each(t, func(x sample, h func() *house.House) {
		words := strings.Split(x.line, " ")
		last := len(words) - 1
		for _, line := range []string{
			" " + x.line, x.line + " ", x.line + "\n\n", "\n" + x.line, x.line + "\r\n", x.line + "\nend", strings.ToUpper(x.line[:1]) + x.line[1:],
			x.line + "\n" + x.line, "make " + x.line, "make " + x.line + "\nend", strings.Replace(x.line, " ", "  ", 1) + " ", strings.ReplaceAll(x.line, " ", "\t") + "\t",
		} {
			refuses(t, h(), line, api.ErrForm)
		}
		if !slices.Contains([]string{"glass", "charge", "culprits", "entry", "post"}, words[0]) {
			refuses(t, h(), x.line+" 1", api.ErrForm)
			if last > 0 && words[0] != "change" {
				refuses(t, h(), strings.Join(words[:last], " "), api.ErrForm)
			}
		}
		for i, place := range x.places {
			refuses(t, h(), replaced(words, i+1, ""), api.ErrForm)
			switch place {
			case newOne, name:
				for _, word := range badNames() {
					refuses(t, h(), replaced(words, i+1, word), api.ErrForm)
				}
			case digit:
				for _, word := range badNumbers() {
					refuses(t, h(), replaced(words, i+1, word), api.ErrForm)
				}
			}
		}
	})
}

// replaced is a line with another word in one place.
func replaced(words []string, i int, word string) string {
	words = slices.Clone(words)
	words[i] = word
	return strings.Join(words, " ")
}

// TestRest: of the words that are left, there may be any number of kilograms, of a change an even one, and must be one of a log's or a book's (P10.2).
func TestRest(t *testing.T) {
	for line, want := range map[string]api.Errno{
		"glass b":                                     api.ErrArg,
		"glass b 1 2 3 4 5":                           api.ErrArg,
		"charge k b 5":                                api.ErrArg,
		"charge k b":                                  api.ErrForm,
		"change f day 60 b si 0 1000":                 api.ErrArg,
		"change f day 60 b si 0 1000 80":              api.ErrForm,
		"change f day 60 b si 0 1000 80 60 100":       api.ErrForm,
		"change f day 60 b si 0 1000 80 60 100 60 1":  api.ErrForm,
		"change f day 60 b si 0 1000 80 60 100 60 1 ": api.ErrForm,
		"change f day 60 b si 0":                      api.ErrForm,
		"entry l":                                     api.ErrForm,
		"entry l ":                                    api.ErrForm,
		"entry none":                                  api.ErrForm,
		"entry none x":                                api.ErrNone,
		"post k":                                      api.ErrForm,
		"post none":                                   api.ErrForm,
		"post none x":                                 api.ErrNone,
		"post none x  y":                              api.ErrForm,
		"culprits r s":                                api.ErrForm,
		"culprits none s 0:0":                         api.ErrNone,
	} {
		fails(t, line, want)
	}
}

// TestKindsOfThings: each name of a line must be that of a thing of the kind that belongs there, which is asked behind the form (P10.2).
func TestKindsOfThings(t *testing.T) {
	each(t, func(x sample, h func() *house.House) {
		words := strings.Split(x.line, " ")
		for i, place := range x.places {
			if place != name {
				continue
			}
			for _, other := range append(h().Names(), "none", "z-9", "day", strings.Repeat("b", api.MaxName)) {
				if other == words[i+1] {
					continue
				}
				line := replaced(words, i+1, other)
				refuses(t, h(), line, api.ErrNone)
				refuses(t, h(), line+" ", api.ErrForm)
				// whatever else is wrong with numbers and other words comes behind
				for j, at := range x.places {
					if at == digit {
						line = replaced(strings.Split(line, " "), j+1, "-9999999999")
					}
				}
				refuses(t, h(), line, api.ErrNone)
			}
		}
	})
}

// TestNewNames: the name of a new thing is none that is there, which is asked ahead of the other names (P10.2).
func TestNewNames(t *testing.T) {
	h := works(t)
	for _, there := range h.Names() {
		refuses(t, h, "run "+there+" m", api.ErrTwice)
		refuses(t, h, "run "+there+" none", api.ErrTwice)
		refuses(t, h, "run "+there+" None", api.ErrForm)
		for _, kind := range kinds() {
			refuses(t, h, block(kind, there, "x\n"), api.ErrTwice)
		}
		refuses(t, h, block("log", there+" none", "x\n"), api.ErrTwice)
		refuses(t, h, block("log", there+" c", logText), api.ErrTwice)
	}
	long := strings.Repeat("z", api.MaxName)
	answers(t, h, "run "+long+" m", "run "+long)
	answers(t, h, "run a-0-z- m", "run a-0-z-")
	answers(t, h, block("book", "end", bookText), "made end")
	answers(t, h, block("book", "make", bookText), "made make")
	answers(t, h, "post end 5 close", "end: 4 posts")
}

// kinds are those of things that blocks make, but for logs.
func kinds() []string { return []string{"batch", "furnace", "machine", "shop", "line", "book"} }

// textOf is a text of each kind.
func textOf(kind string) string {
	return map[string]string{"batch": batchText, "furnace": furnaceText, "machine": machineText, "shop": shopText, "line": lineText, "book": bookText}[kind]
}

// TestBlocks: a block makes a thing of its kind of the text between its first and its last line (P10.2).
func TestBlocks(t *testing.T) {
	for _, kind := range kinds() {
		answers(t, with(t), block(kind, "x", textOf(kind)), "made x")
		answers(t, with(t), block(kind, "x", textOf(kind))+"\n", "made x")
		for _, other := range kinds() {
			if other != kind {
				refuses(t, with(t), block(kind, "x", textOf(other)), api.ErrForm)
			}
		}
		good := block(kind, "x", textOf(kind))
		for _, text := range []string{
			good[:len(good)-4], good[:len(good)-3], good + " ", good + "\n\n", good + "\nend", good + "\naudit", "\n" + good, " " + good, good + "\r", "audit\n" + good, good[:len(good)-3] + "End",
			"make " + kind + "\n" + textOf(kind) + "end", "make " + kind + " \n" + textOf(kind) + "end", "make  " + kind + " x\n" + textOf(kind) + "end", "make " + kind + "  x\n" + textOf(kind) + "end",
			block(kind, "x ", textOf(kind)), block(kind, "x c", textOf(kind)), block(kind, "X", textOf(kind)), block(kind, "x", "end\n"+textOf(kind)), block(kind, "x", textOf(kind)+"end\n"),
			block(kind+"s", "x", textOf(kind)), block(strings.ToUpper(kind), "x", textOf(kind)), "Make" + good[4:], "makes" + good[4:], good[5:], kind + " x", "make " + kind + " x",
		} {
			refuses(t, with(t), text, api.ErrForm)
		}
		for _, word := range badNames() {
			refuses(t, with(t), block(kind, word, textOf(kind)), api.ErrForm)
		}
	}
	for _, kind := range []string{"run", "paper", "thing", "mould", "best", "make", "end", "x"} {
		fails(t, block(kind, "x", ""), api.ErrForm)
		fails(t, block(kind, "x m", ""), api.ErrForm)
	}
	// where a block ends is asked ahead of its name
	fails(t, block("book", "k", "end\n"+bookText), api.ErrForm)
	fails(t, block("log", "l c", logText+"end\n"), api.ErrForm)
	refuses(t, with(t), "end\nend", api.ErrForm)
	refuses(t, with(t), "make\nend", api.ErrForm)
	refuses(t, with(t), "make \nend", api.ErrForm)
}

// TestBlockErrors: a text that is wrong has the error of its layer (P10.2).
func TestBlockErrors(t *testing.T) {
	for kind, all := range map[string]map[string]api.Errno{
		"batch":   {"": api.ErrForm, "oxides\nwanted 1\nredox 0 0\nshares\n": api.ErrArg, strings.Replace(batchText, "sand", "Sand", 1): api.ErrName, strings.Replace(batchText, "soda", "sand", 1): api.ErrTwice, strings.Replace(batchText, "570", "581", 1): api.ErrArg, batchText + "\n": api.ErrForm},
		"furnace": {"": api.ErrForm, "modes\n": api.ErrArg, strings.Replace(furnaceText, "day rest", "day day", 1): api.ErrTwice, strings.Replace(furnaceText, "melt 10 0", "melt 11 0", 1): api.ErrSum, furnaceText + "stream none melt 0 0\n": api.ErrNone},
		"machine": {"": api.ErrForm, "cycle 0 0\noffsets\n": api.ErrArg, strings.Replace(machineText, "stop", "run", 1): api.ErrTwice, machineText + "same a 0 0 b 0 0\n": api.ErrNone, armText + "mode go -1 0\nmotion 0:0 1:999\nmotion\n": api.ErrScope},
		"shop":    {"": api.ErrForm, "shop 0 0 0 0\n": api.ErrArg, shopText + "mould 11 1\n": api.ErrForm, shopText + "mount 11 0 0 900 2000\n": api.ErrClash, shopText + "mount 13 0 0 900 2000\n": api.ErrNone},
		"line":    {"": api.ErrForm, "every 0\n": api.ErrArg, lineText + "claim crack 1 50\n": api.ErrTwice, lineText + "claim warp 1 50\n": api.ErrNone, lineText + "station Ear\n": api.ErrName},
	} {
		for text, want := range all {
			refuses(t, with(t), block(kind, "x", text), want)
			refuses(t, with(t), block(kind, "x x", text), api.ErrForm)
		}
	}
}

// TestLog: a log is of a line of inspection (P10.2).
func TestLog(t *testing.T) {
	h := works(t)
	answers(t, h, block("log", "x c", logText), "made x")
	answers(t, h, block("log", "y c", ""), "made y")
	for text, want := range map[string]api.Errno{
		"\n":                              api.ErrForm,
		"5 bottle 3 0\n":                  api.ErrForm,
		"5 sample ear crack found\n":      api.ErrNone,
		"5 bottle 3 1000 pass\n":          api.ErrArg,
		logText + "5 bottle 3 100 pass\n": api.ErrState,
		strings.Repeat("5 bottle 3 100 pass\n", api.MaxRuns+1): api.ErrLimit,
	} {
		refuses(t, h, block("log", "z c", text), want)
		refuses(t, h, block("log", "z l", text), api.ErrNone)
		refuses(t, h, block("log", "z z", text), api.ErrNone)
		refuses(t, h, block("log", "z", text), api.ErrForm)
		refuses(t, h, block("log", "z C", text), api.ErrForm)
		refuses(t, h, block("log", "z c c", text), api.ErrForm)
	}
	// another line of inspection gives the same entries other verdicts
	lax := block("line", "d", "every 9\nflaw crack 0\nstation eye\nclaim crack 1 50\n")
	h = works(t, lax, block("log", "x d", logText))
	answers(t, h, "judge x", "clear: 1 2 3 6 7 8; blocked:; open:")
}

// TestLength: a line or a block has MaxText bytes at most, its last line feed among them (P10.2).
func TestLength(t *testing.T) {
	h := works(t)
	long := "glass b" + strings.Repeat(" 1", api.MaxText)
	refuses(t, h, long[:api.MaxText-1], api.ErrArg)
	refuses(t, h, long[:api.MaxText-1]+"\n", api.ErrArg)
	refuses(t, h, long[:api.MaxText+1], api.ErrLimit)
	refuses(t, h, long[:api.MaxText-1]+"\n\n", api.ErrLimit)
	refuses(t, h, strings.Repeat("\n", api.MaxText), api.ErrForm)
	refuses(t, h, strings.Repeat("\n", api.MaxText+1), api.ErrLimit)
	first, last := "make book x\n", "end"
	body := strings.Repeat("x", api.MaxText-len(first)-len(last)-1) + "\n"
	refuses(t, h, first+body+last, api.ErrForm)
	refuses(t, h, first+"x"+body+last, api.ErrLimit)
	first = "make log x c\n"
	refuses(t, h, first+strings.Repeat("5 bottle 3 0 pass\n", 3000)+last, api.ErrLimit)
	refuses(t, h, first+strings.Repeat("\n", api.MaxText-len(first)-len(last))+last, api.ErrForm)
}
