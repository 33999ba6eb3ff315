package moulds

import (
	"slices"
	"strconv"
	"strings"

	"cullet/api"
)

// The words with which lines begin.
const (
	shopWord  = "shop"
	mouldWord = "mould"
	mountWord = "mount"
)

// Print returns the text of a shop.
func Print(s api.Shop) (string, api.Errno) {
	if e := Check(s); e != api.OK {
		return "", e
	}
	text := line(shopWord, s.Cavities, s.Low, s.High, s.Swap)
	for _, x := range s.Moulds {
		text += line(mouldWord, x.Number, x.Life)
	}
	for _, x := range s.Mounts {
		text += line(mountWord, s.Moulds[x.Mould].Number, x.Section, x.Cavity, x.From, x.To)
	}
	if len(text) > api.MaxText {
		return "", api.ErrLimit
	}
	return text, api.OK
}

// line returns the line of a word, and numbers behind it.
func line(word string, numbers ...int) string {
	for _, n := range numbers {
		word += " " + strconv.Itoa(n)
	}
	return word + "\n"
}

// Parse returns the shop of a text, or the number of the line that is wrong, and its error.
func Parse(text string) (s api.Shop, line int, e api.Errno) {
	if len(text) > api.MaxText {
		return api.Shop{}, 0, api.ErrLimit
	}
	for row := range strings.Lines(text) {
		line++
		words := strings.Split(strings.TrimSuffix(row, "\n"), " ")
		if e := read(&s, words, line == 1); e != api.OK {
			return api.Shop{}, line, e
		}
	}
	if line == 0 {
		return api.Shop{}, 0, api.ErrForm
	}
	if e := Check(s); e != api.OK {
		return api.Shop{}, 0, e
	}
	return s, 0, api.OK
}

// read adds what a line says to a shop. The line shop is the first one, and no other one is; moulds come ahead of mounts.
func read(s *api.Shop, words []string, isFirst bool) api.Errno {
	n, is := numbers(words[1:])
	if !is || isFirst != (words[0] == shopWord) {
		return api.ErrForm
	}
	switch {
	case words[0] == shopWord && len(n) == 4:
		s.Cavities, s.Low, s.High, s.Swap = n[0], n[1], n[2], n[3]
	case words[0] == mouldWord && len(n) == 2 && len(s.Mounts) == 0:
		s.Moulds = append(s.Moulds, api.Mould{Number: n[0], Life: n[1]})
	case words[0] == mountWord && len(n) == 5:
		mould := findMould(s.Moulds, n[0])
		if mould < 0 {
			return api.ErrNone
		}
		s.Mounts = append(s.Mounts, api.Mount{Mould: mould, Section: n[1], Cavity: n[2], From: n[3], To: n[4]})
	default:
		return api.ErrForm
	}
	return api.OK
}

// numbers returns the numbers of words, and whether they all are numbers.
func numbers(words []string) (all []int, are bool) {
	for _, w := range words {
		n, is := number(w)
		if !is {
			return nil, false
		}
		all = append(all, n)
	}
	return all, true
}

// number returns the number of a word. Whatever is written otherwise than it would be printed is none.
func number(word string) (n int, is bool) {
	const most = 9999999999 // ten digits
	n, err := strconv.Atoi(word)
	return n, err == nil && strconv.Itoa(n) == word && between(n, -most, most)
}

// Same tells whether two shops are equal in all fields.
func Same(a, b api.Shop) bool {
	return a.Cavities == b.Cavities && a.Low == b.Low && a.High == b.High && a.Swap == b.Swap &&
		slices.Equal(a.Moulds, b.Moulds) && slices.Equal(a.Mounts, b.Mounts)
}
