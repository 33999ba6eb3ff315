package house

import (
	"slices"
	"strconv"
	"strings"

	"cullet/api"
)

// place is what stands in a place of a line.
type place int

// The names of things, a new one first; then numbers; then words that may be any; last those that take all words that are left.
const (
	nowhere place = iota
	newName
	theBatch
	theFurnace
	theMachine
	theShop
	theChecker
	theBook
	theLog
	theRun
	theMinutes
	theLow
	theHigh
	theSection
	theTime
	theFrom
	theTo
	theNumber
	theLot
	thePeriod
	theMode
	theOxide
	theKilos
	bothKilos // of an old recipe, and of as many materials of a new one
	theSights
	theRow // of a log, or of a book
	places
)

func (p place) isName() bool { return between(int(p), int(newName), int(theRun)) }

func (p place) isNumber() bool { return between(int(p), int(theMinutes), int(thePeriod)) }

func (p place) isWord() bool { return p == theMode || p == theOxide }

// form is what a line looks like behind its first words, and what does it.
type form struct {
	places []place
	do     func(*deed) string
}

// lineForms returns the forms of lines by their first words.
func lineForms() map[string]form {
	return map[string]form{
		"best":     {[]place{theBatch}, (*deed).best},
		"glass":    {[]place{theBatch, theKilos}, (*deed).glass},
		"change":   {[]place{theFurnace, theMode, theMinutes, theBatch, theOxide, theLow, theHigh, bothKilos}, (*deed).change},
		"safe":     {[]place{theMachine}, (*deed).safe},
		"run":      {[]place{newName, theMachine}, (*deed).begin},
		"switch":   {[]place{theRun, theSection, theMode, theTime}, (*deed).switchOver},
		"soonest":  {[]place{theRun, theSection, theMode, theTime}, (*deed).soonest},
		"made":     {[]place{theRun, theShop, theFrom, theTo}, (*deed).made},
		"worn":     {[]place{theRun, theShop, theTo}, (*deed).worn},
		"trace":    {[]place{theRun, theShop, theTime, theNumber}, (*deed).trace},
		"culprits": {[]place{theRun, theShop, theSights}, (*deed).culprits},
		"entry":    {[]place{theLog, theRow}, (*deed).entry},
		"judge":    {[]place{theLog}, (*deed).judge},
		"hold":     {[]place{theShop, theNumber, theFrom, theTo}, (*deed).hold},
		"release":  {[]place{theLog, theRun, theShop}, (*deed).release},
		"post":     {[]place{theBook, theRow}, (*deed).post},
		"pack":     {[]place{theBook, theLog, theRun, theShop, theTime, theLot, theLow, theHigh}, (*deed).pack},
		"certify":  {[]place{theBook, theTime, theLot}, (*deed).certify},
		"share":    {[]place{theBook, thePeriod}, (*deed).share},
		"charge":   {[]place{theBook, theBatch, theTime, theKilos}, (*deed).charge},
		"audit":    {nil, (*deed).audit},
	}
}

// blockForms returns the forms of the first lines of blocks by the kinds of what they make.
func blockForms() map[string]form {
	return map[string]form{
		"batch":   {[]place{newName}, (*deed).makeBatch},
		"furnace": {[]place{newName}, (*deed).makeFurnace},
		"machine": {[]place{newName}, (*deed).makeMachine},
		"shop":    {[]place{newName}, (*deed).makeShop},
		"line":    {[]place{newName}, (*deed).makeChecker},
		"book":    {[]place{newName}, (*deed).makeBook},
		"log":     {[]place{newName, theChecker}, (*deed).makeLog},
	}
}

// do does the line, or the lines of the block.
func (d *deed) do(lines []string) string {
	needForm(len(lines) > 0)
	words := strings.Split(lines[0], " ")
	needForm(!slices.Contains(words, ""))
	if len(lines) == 1 {
		return d.doForm(lineForms(), words)
	}
	last := len(lines) - 1
	needForm(words[0] == makeWord && len(words) > 1 && slices.Index(lines, endWord) == last)
	d.text = textOf(lines[1:last])
	return d.doForm(blockForms(), words[1:])
}

// textOf returns the text that has these lines.
func textOf(lines []string) string {
	var text strings.Builder
	for _, line := range lines {
		text.WriteString(line + "\n")
	}
	return text.String()
}

// doForm does what the first word says.
func (d *deed) doForm(forms map[string]form, words []string) string {
	f, is := forms[words[0]]
	needForm(is)
	d.read(f.places, words[1:])
	if slices.Contains(f.places, newName) {
		need(d.stock.things[d.words[newName]] == nil, api.ErrTwice)
	}
	for _, p := range f.places {
		if p.isName() && p != newName {
			need(d.use(d.stock.things[d.words[p]]) == p, api.ErrNone)
		}
	}
	if slices.Contains(f.places, newName) {
		need(len(d.stock.names) < api.MaxThings, api.ErrLimit)
	}
	return f.do(d)
}

// read keeps the words of a line, each of which must be such as stand in its place.
func (d *deed) read(all []place, words []string) {
	for i, p := range all {
		if !p.isName() && !p.isNumber() && !p.isWord() {
			d.readRest(p, words[i:])
			return
		}
		needForm(i < len(words))
		needForm(!p.isName() || isName(words[i]))
		if p.isNumber() {
			d.numbers[p] = number(words[i])
		}
		d.words[p] = words[i]
	}
	needForm(len(words) == len(all))
}

// readRest keeps the words that are left of a line.
func (d *deed) readRest(p place, words []string) {
	switch p {
	case theKilos, bothKilos:
		needForm(p == theKilos || len(words)%2 == 0)
		for _, word := range words {
			d.kilos = append(d.kilos, number(word))
		}
	case theSights:
		needForm(len(words) > 0)
		for _, word := range words {
			time, shown, is := strings.Cut(word, ":")
			needForm(is)
			d.sights = append(d.sights, api.Sight{Time: number(time), Number: number(shown)})
		}
	case theRow:
		needForm(len(words) > 0)
		d.words[p] = strings.Join(words, " ")
	}
}

// wrong is what a line is left with that has an error.
type wrong struct{ e api.Errno }

func need(is bool, e api.Errno) {
	if !is {
		panic(wrong{e})
	}
}

// needForm leaves a line unless it is of the form.
func needForm(is bool) { need(is, api.ErrForm) }

// needOK leaves a line with an error.
func needOK(e api.Errno) { need(e == api.OK, e) }

// number returns the number of a word. Whatever is written otherwise than it would be printed is none.
func number(word string) int {
	const most = 9999999999 // ten digits
	n, err := strconv.Atoi(word)
	needForm(err == nil && digits(n) == word && between(n, -most, most))
	return n
}

func isName(s string) bool {
	if len(s) == 0 || len(s) > api.MaxName || !isLetter(s[0]) {
		return false
	}
	for i := range len(s) {
		if c := s[i]; !isLetter(c) && c != '-' && (c < '0' || c > '9') {
			return false
		}
	}
	return true
}

func isLetter(c byte) bool { return 'a' <= c && c <= 'z' }

func between(n, least, most int) bool { return least <= n && n <= most }
