package plan

import (
	"slices"
	"strconv"
	"strings"

	"cullet/api"
)

// The words of lines that say what they are.
const (
	daysWord    = "days"
	ovenWord    = "oven"
	articleWord = "article"
	makerWord   = "maker"
	jobWord     = "job"
	colourWord  = "colour"
	orderWord   = "order"
)

// nothing stands in a text for no article.
const nothing = "-"

// colon stands in a text between the minutes and the cost of a change.
const colon = ":"

// Print returns the text of a season.
func Print(s api.Season) (string, api.Errno) {
	if e := Check(s); e != api.OK {
		return "", e
	}
	text := line([]string{daysWord}, digits(s.Days))
	for _, x := range s.Ovens {
		text += line([]string{ovenWord}, digits(x.Least, x.Most))
	}
	for _, x := range s.Articles {
		text += line([]string{articleWord, x.Name}, digits(x.Colour, x.Weight))
	}
	for _, x := range s.Makers {
		text += line([]string{makerWord}, digits(x.Oven, x.Idle), []string{nameOf(s.Articles, x.Start)}, digits(x.Rates...))
	}
	for _, x := range s.Jobs {
		text += line([]string{jobWord}, changes(x))
	}
	for _, x := range s.Colours {
		text += line([]string{colourWord}, changes(x))
	}
	for _, x := range s.Orders {
		text += line([]string{orderWord, nameOf(s.Articles, x.Article)}, digits(x.Quantity, x.Due, x.Penalty))
	}
	if len(text) > api.MaxText {
		return "", api.ErrLimit
	}
	return text, api.OK
}

// line returns the line of words that come in parts.
func line(parts ...[]string) string { return strings.Join(slices.Concat(parts...), " ") + "\n" }

func digits(numbers ...int) []string {
	var words []string
	for _, n := range numbers {
		words = append(words, strconv.Itoa(n))
	}
	return words
}

func changes(turns []api.Turn) []string {
	var words []string
	for _, x := range turns {
		words = append(words, strings.Join(digits(x.Minutes, x.Cost), colon))
	}
	return words
}

// nameOf returns the word for an article, or for none.
func nameOf(articles []api.Article, n int) string {
	if n == none {
		return nothing
	}
	return articles[n].Name
}

// kind is lines that begin with the same word: those of a lesser place stand ahead of them, and a function reads what is behind the word.
type kind struct {
	place int
	read  func(s *api.Season, words []string) api.Errno
}

func kinds() map[string]kind {
	return map[string]kind{
		daysWord:    {0, readDays},
		ovenWord:    {1, readOven},
		articleWord: {2, readArticle},
		makerWord:   {3, readMaker},
		jobWord:     {4, readJob},
		colourWord:  {5, readColour},
		orderWord:   {6, readOrder},
	}
}

// Parse returns the season of a text, or the number of the line that is wrong, and its error.
func Parse(text string) (s api.Season, line int, e api.Errno) {
	if len(text) > api.MaxText {
		return api.Season{}, 0, api.ErrLimit
	}
	all, last := kinds(), 0
	for row := range strings.Lines(text) {
		line++
		words := strings.Split(strings.TrimSuffix(row, "\n"), " ")
		x, is := all[words[0]]
		isFirst := x.place == 0
		if !is || x.place < last || isFirst != (line == 1) || slices.Contains(words, "") {
			return api.Season{}, line, api.ErrForm
		}
		last = x.place
		if e := x.read(&s, words[1:]); e != api.OK {
			return api.Season{}, line, e
		}
	}
	if line == 0 {
		return api.Season{}, 0, api.ErrForm
	}
	if e := Check(s); e != api.OK {
		return api.Season{}, 0, e
	}
	return s, 0, api.OK
}

func readDays(s *api.Season, words []string) api.Errno {
	n, are := numbers(words)
	if !are || len(n) != 1 {
		return api.ErrForm
	}
	s.Days = n[0]
	return api.OK
}

func readOven(s *api.Season, words []string) api.Errno {
	n, are := numbers(words)
	if !are || len(n) != 2 {
		return api.ErrForm
	}
	s.Ovens = append(s.Ovens, api.Oven{Least: n[0], Most: n[1]})
	return api.OK
}

func readArticle(s *api.Season, words []string) api.Errno {
	if len(words) != 3 {
		return api.ErrForm
	}
	n, are := numbers(words[1:])
	if !are {
		return api.ErrForm
	}
	s.Articles = append(s.Articles, api.Article{Name: words[0], Colour: n[0], Weight: n[1]})
	return api.OK
}

func readMaker(s *api.Season, words []string) api.Errno {
	if len(words) < 3 {
		return api.ErrForm
	}
	n, are := numbers(words[:2])
	rates, too := numbers(words[3:])
	if !are || !too {
		return api.ErrForm
	}
	start := none
	if words[2] != nothing {
		if start = findArticle(s.Articles, words[2]); start < 0 {
			return api.ErrNone
		}
	}
	s.Makers = append(s.Makers, api.Maker{Oven: n[0], Rates: rates, Idle: n[1], Start: start})
	return api.OK
}

func readJob(s *api.Season, words []string) api.Errno { return readTurns(&s.Jobs, words) }

func readColour(s *api.Season, words []string) api.Errno { return readTurns(&s.Colours, words) }

// readTurns adds the changes from one thing to those from all others.
func readTurns(all *[][]api.Turn, words []string) api.Errno {
	var turns []api.Turn
	for _, word := range words {
		n, are := numbers(strings.Split(word, colon))
		if !are || len(n) != 2 {
			return api.ErrForm
		}
		turns = append(turns, api.Turn{Minutes: n[0], Cost: n[1]})
	}
	*all = append(*all, turns)
	return api.OK
}

func readOrder(s *api.Season, words []string) api.Errno {
	if len(words) != 4 {
		return api.ErrForm
	}
	n, are := numbers(words[1:])
	if !are {
		return api.ErrForm
	}
	article := findArticle(s.Articles, words[0])
	if article < 0 {
		return api.ErrNone
	}
	s.Orders = append(s.Orders, api.Order{Article: article, Quantity: n[0], Due: n[1], Penalty: n[2]})
	return api.OK
}

// numbers returns the numbers of words, if they are all some. Whatever is written otherwise than it would be printed is none.
func numbers(words []string) (all []int, are bool) {
	const most = 9999999999 // ten digits
	for _, word := range words {
		n, err := strconv.Atoi(word)
		if err != nil || strconv.Itoa(n) != word || !between(n, -most, most) {
			return nil, false
		}
		all = append(all, n)
	}
	return all, true
}
