package furnace

import (
	"slices"
	"strconv"
	"strings"

	"cullet/api"
)

// nowhere stands in a text for what is no zone.
const nowhere = "-"

// Print returns the text of a furnace.
func Print(f api.Furnace) (string, api.Errno) {
	if e := Check(f); e != api.OK {
		return "", e
	}
	lines := [][]string{append([]string{"modes"}, f.Modes...)}
	for _, z := range f.Zones {
		lines = append(lines, []string{"zone", z.Name, strconv.Itoa(z.Hold)})
	}
	for _, s := range f.Streams {
		words := []string{"stream", place(f, s.From), place(f, s.To)}
		for _, rate := range s.Rates {
			words = append(words, strconv.Itoa(rate))
		}
		lines = append(lines, words)
	}
	text := ""
	for _, words := range lines {
		text += strings.Join(words, " ") + "\n"
	}
	if len(text) > api.MaxText {
		return "", api.ErrLimit
	}
	return text, api.OK
}

// place returns the word for where a stream comes from or goes to.
func place(f api.Furnace, n int) string {
	if n == outside {
		return nowhere
	}
	return f.Zones[n].Name
}

// Parse returns the furnace of a text, or the number of the line that is wrong, and its error.
func Parse(text string) (f api.Furnace, line int, e api.Errno) {
	if len(text) > api.MaxText {
		return api.Furnace{}, 0, api.ErrLimit
	}
	for s := range strings.Lines(text) {
		line++
		words := strings.Split(strings.TrimSuffix(s, "\n"), " ")
		if e := read(&f, line, words); e != api.OK {
			return api.Furnace{}, line, e
		}
	}
	if line == 0 {
		return api.Furnace{}, 0, api.ErrForm
	}
	if e := Check(f); e != api.OK {
		return api.Furnace{}, 0, e
	}
	return f, 0, api.OK
}

// read adds what a line says to a furnace.
func read(f *api.Furnace, line int, words []string) api.Errno {
	isModes := words[0] == "modes"
	if isModes != (line == 1) || slices.Contains(words, "") {
		return api.ErrForm
	}
	switch words[0] {
	case "modes":
		f.Modes = words[1:]
		return api.OK
	case "zone":
		return readZone(f, words[1:])
	case "stream":
		return readStream(f, words[1:])
	}
	return api.ErrForm
}

func readZone(f *api.Furnace, words []string) api.Errno {
	if len(f.Streams) > 0 || len(words) != 2 {
		return api.ErrForm
	}
	hold, is := number(words[1])
	if !is {
		return api.ErrForm
	}
	f.Zones = append(f.Zones, api.Zone{Name: words[0], Hold: hold})
	return api.OK
}

func readStream(f *api.Furnace, words []string) api.Errno {
	if len(words) < 2 {
		return api.ErrForm
	}
	var rates []int
	for _, w := range words[2:] {
		rate, is := number(w)
		if !is {
			return api.ErrForm
		}
		rates = append(rates, rate)
	}
	from, isFrom := find(f, words[0])
	to, isTo := find(f, words[1])
	if !isFrom || !isTo {
		return api.ErrNone
	}
	f.Streams = append(f.Streams, api.Stream{From: from, To: to, Rates: rates})
	return api.OK
}

// find returns what place returned a word for.
func find(f *api.Furnace, word string) (n int, found bool) {
	if word == nowhere {
		return outside, true
	}
	if n = findZone(f.Zones, word); n < 0 {
		return 0, false
	}
	return n, true
}

// number returns the number of a word, if it is one. Whatever is written otherwise than it would be printed is none.
func number(word string) (n int, is bool) {
	const most = 9999999999 // ten digits
	n, err := strconv.Atoi(word)
	if err != nil || strconv.Itoa(n) != word || !between(n, -most, most) {
		return 0, false
	}
	return n, true
}
