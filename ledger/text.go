package ledger

import (
	"slices"
	"strconv"
	"strings"

	"cullet/api"
)

// holdWord begins the first line of a text.
const holdWord = "hold"

// Write returns the text of a book.
func Write(b api.Book) (string, api.Errno) {
	if e := Check(b); e != api.OK {
		return "", e
	}
	var text strings.Builder
	text.WriteString(line([]string{holdWord}, ends(&b.Hold, &b.First)))
	for _, p := range b.Posts {
		x := entryOf(&p)
		text.WriteString(line([]string{digits(p.Time), x.word()}, x.fields()))
	}
	if text.Len() > api.MaxText {
		return "", api.ErrLimit
	}
	return text.String(), api.OK
}

// line returns the line of words and the numbers of fields behind them.
func line(words []string, fields []*int) string {
	for _, field := range fields {
		words = append(words, digits(*field))
	}
	return strings.Join(words, " ") + "\n"
}

func digits(n int) string { return strconv.Itoa(n) }

// notOfForm is what the reading of a text is left with at a line that is not of the form.
type notOfForm struct{}

func needForm(is bool) {
	if !is {
		panic(notOfForm{})
	}
}

// Read returns the book of a text, or the number of the line that is wrong, and its error.
func Read(text string) (b api.Book, line int, e api.Errno) {
	if len(text) > api.MaxText {
		return api.Book{}, 0, api.ErrLimit
	}
	b, line, e = readLines(text)
	if e != api.OK {
		return api.Book{}, line, e
	}
	if e := Check(b); e != api.OK {
		return api.Book{}, 0, e
	}
	return b, 0, api.OK
}

// readLines returns the book of lines, or the number of the first one that is not of the form.
func readLines(text string) (b api.Book, line int, e api.Errno) {
	// It stays the error if a line is left.
	e = api.ErrForm
	defer func() {
		if _, is := recover().(notOfForm); is {
			b = api.Book{}
		}
	}()
	for row := range strings.Lines(text) {
		line++
		words := strings.Split(strings.TrimSuffix(row, "\n"), " ")
		if line == 1 {
			needForm(words[0] == holdWord)
			fill(ends(&b.Hold, &b.First), words[1:])
			continue
		}
		b.Posts = append(b.Posts, postOf(words))
	}
	needForm(line > 0)
	return b, line, api.OK
}

// postOf returns the post of a line.
func postOf(words []string) api.Post {
	needForm(len(words) >= 2)
	p := api.Post{Time: number(words[0])}
	fill(entryNamed(&p, words[1]).fields(), words[2:])
	return p
}

// entryNamed has a post be of the kind with this word, and returns it so.
func entryNamed(p *api.Post, word string) entry {
	for {
		p.Kind++
		x := entryOf(p)
		needForm(x != nil)
		if x.word() == word {
			return x
		}
	}
}

// fill sets fields to the numbers of words.
func fill(fields []*int, words []string) {
	needForm(len(words) == len(fields))
	for i, word := range words {
		*fields[i] = number(word)
	}
}

// number returns the number of a word. Whatever is written otherwise than it would be printed is none.
func number(word string) int {
	const most = 9999999999 // ten digits
	n, err := strconv.Atoi(word)
	needForm(err == nil && digits(n) == word && between(n, -most, most))
	return n
}

// Same tells whether two books are equal in all fields.
func Same(a, b api.Book) bool {
	return a.Hold == b.Hold && a.First == b.First && slices.Equal(a.Posts, b.Posts)
}
