package inspect

import (
	"slices"
	"strconv"
	"strings"

	"cullet/api"
)

// The words of lines that say what they are.
const (
	everyWord   = "every"
	flawWord    = "flaw"
	stationWord = "station"
	claimWord   = "claim"
	bottleWord  = "bottle"
	sampleWord  = "sample"
)

// The last words of entries.
const (
	passWord   = "pass"
	outWord    = "out"
	missedWord = "missed"
	foundWord  = "found"
)

// Print returns the text of a line of inspection.
func Print(c api.Checker) (string, api.Errno) {
	if e := Check(c); e != api.OK {
		return "", e
	}
	text := line(everyWord, digits(c.Every))
	for _, x := range c.Flaws {
		text += line(flawWord, x.Name, digits(x.Need))
	}
	for _, x := range c.Stands {
		text += line(stationWord, x.Name)
		for _, y := range x.Claims {
			text += line(claimWord, c.Flaws[y.Class].Name, digits(y.Miss), digits(y.Of))
		}
	}
	return short(text)
}

// Write returns the text of a log.
func Write(c api.Checker, l []api.Run) (string, api.Errno) {
	if e := CheckLog(c, l); e != api.OK {
		return "", e
	}
	var text strings.Builder
	for _, x := range l {
		text.WriteString(entryLine(c, x))
	}
	return short(text.String())
}

// entryLine returns the line of an entry that may be.
func entryLine(c api.Checker, x api.Run) string {
	if x.Kind == api.RuBottle {
		return line(digits(x.Time), bottleWord, digits(x.Lot), digits(x.Number), chosen(x.Out, passWord, outWord))
	}
	return line(digits(x.Time), sampleWord, c.Stands[x.Stand].Name, c.Flaws[x.Class].Name, chosen(x.Out, missedWord, foundWord))
}

func line(words ...string) string { return strings.Join(words, " ") + "\n" }

func digits(n int) string { return strconv.Itoa(n) }

// chosen returns the word that says yes or no.
func chosen(is bool, no, yes string) string {
	if is {
		return yes
	}
	return no
}

// short returns a text, if it is not too long.
func short(text string) (string, api.Errno) {
	if len(text) > api.MaxText {
		return "", api.ErrLimit
	}
	return text, api.OK
}

// wrong is what a line is left with that has an error.
type wrong struct{ e api.Errno }

func need(is bool, e api.Errno) {
	if !is {
		panic(wrong{e})
	}
}

// needForm leaves a line unless it is of the form.
func needForm(is bool) { need(is, api.ErrForm) }

// readLines has all lines of a text read, each as its words, none of which is empty. It returns how many lines there are; or the number of the first one that is wrong, and its error.
func readLines(text string, read func(words []string)) (line int, e api.Errno) {
	// What is left otherwise than by need must not look like a result.
	e = api.ErrForm
	defer func() {
		if w, is := recover().(wrong); is {
			e = w.e
		}
	}()
	for row := range strings.Lines(text) {
		line++
		words := strings.Split(strings.TrimSuffix(row, "\n"), " ")
		needForm(!slices.Contains(words, ""))
		read(words)
	}
	return line, api.OK
}

// Parse returns the line of inspection of a text, or the number of the line that is wrong, and its error.
func Parse(text string) (c api.Checker, line int, e api.Errno) {
	if len(text) > api.MaxText {
		return api.Checker{}, 0, api.ErrLimit
	}
	var r reader
	line, e = readLines(text, r.read)
	if e != api.OK {
		return api.Checker{}, line, e
	}
	if line == 0 {
		return api.Checker{}, 0, api.ErrForm
	}
	if e := Check(r.c); e != api.OK {
		return api.Checker{}, 0, e
	}
	return r.c, 0, api.OK
}

// The stages of the text of a line of inspection: which lines may come next, at atFlaws also those of stations.
const (
	atEvery = iota
	atFlaws
	atStands
)

// reader gathers a line of inspection.
type reader struct {
	c     api.Checker
	stage int
}

// pass needs to be at one of some stages, and goes to another one.
func (r *reader) pass(least, most, next int) {
	needForm(between(r.stage, least, most))
	r.stage = next
}

// read adds what a line of a text says.
func (r *reader) read(words []string) {
	rest := words[1:]
	switch words[0] {
	case everyWord:
		r.pass(atEvery, atEvery, atFlaws)
		needForm(len(rest) == 1)
		r.c.Every = number(rest[0])
	case flawWord:
		r.pass(atFlaws, atFlaws, atFlaws)
		needForm(len(rest) == 2)
		r.c.Flaws = append(r.c.Flaws, api.Flaw{Name: rest[0], Need: number(rest[1])})
	case stationWord:
		r.pass(atFlaws, atStands, atStands)
		needForm(len(rest) == 1)
		r.c.Stands = append(r.c.Stands, api.Stand{Name: rest[0]})
	case claimWord:
		r.pass(atStands, atStands, atStands)
		needForm(len(rest) == 3)
		r.claim(rest[0], number(rest[1]), number(rest[2]))
	default:
		needForm(false)
	}
}

// claim adds a claim to the last station.
func (r *reader) claim(flaw string, miss, of int) {
	last := &r.c.Stands[len(r.c.Stands)-1]
	last.Claims = append(last.Claims, api.Claim{Class: found(findFlaw(r.c.Flaws, flaw)), Miss: miss, Of: of})
}

// Read returns the log of a text, or the number of the line that is wrong, and its error.
func Read(c api.Checker, text string) (l []api.Run, line int, e api.Errno) {
	if e := Check(c); e != api.OK {
		return nil, 0, e
	}
	if len(text) > api.MaxText {
		return nil, 0, api.ErrLimit
	}
	line, e = readLines(text, func(words []string) { l = append(l, entryOf(c, words)) })
	if e != api.OK {
		return nil, line, e
	}
	if e := CheckLog(c, l); e != api.OK {
		return nil, 0, e
	}
	return l, 0, api.OK
}

// entryOf returns the entry of a line.
func entryOf(c api.Checker, words []string) api.Run {
	needForm(len(words) == 5)
	x := api.Run{Time: number(words[0])}
	switch words[1] {
	case bottleWord:
		x.Kind = api.RuBottle
		x.Lot, x.Number = number(words[2]), number(words[3])
		x.Out = choice(words[4], passWord, outWord)
	case sampleWord:
		x.Kind = api.RuChallenge
		x.Out = choice(words[4], missedWord, foundWord)
		x.Stand, x.Class = found(findStand(c.Stands, words[2])), found(findFlaw(c.Flaws, words[3]))
	default:
		needForm(false)
	}
	return x
}

// choice tells whether a word says yes; it must say that, or no.
func choice(word, no, yes string) bool {
	needForm(word == no || word == yes)
	return word == yes
}

// found needs the number of what was searched to be that of something.
func found(n int) int {
	need(n >= 0, api.ErrNone)
	return n
}

// number returns the number of a word. Whatever is written otherwise than it would be printed is none.
func number(word string) int {
	const most = 9999999999 // ten digits
	n, err := strconv.Atoi(word)
	needForm(err == nil && digits(n) == word && between(n, -most, most))
	return n
}

// Same tells whether two lines of inspection are equal in all fields.
func Same(a, b api.Checker) bool {
	return a.Every == b.Every && slices.Equal(a.Flaws, b.Flaws) && slices.EqualFunc(a.Stands, b.Stands, sameStand)
}

func sameStand(a, b api.Stand) bool { return a.Name == b.Name && slices.Equal(a.Claims, b.Claims) }
