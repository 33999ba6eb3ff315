package house

import (
	"strconv"
	"strings"
)

// joined returns words with a blank between two of them.
func joined(words ...string) string { return strings.Join(words, " ") }

// listed returns the first word of a list, and what stands in the list, each behind a blank.
func listed[T any](first string, list []T, word func(T) string) string {
	words := []string{first}
	for _, x := range list {
		words = append(words, word(x))
	}
	return joined(words...)
}

func digits(n int) string { return strconv.Itoa(n) }
