package house

import (
	"iter"
	"strings"

	"cullet/api"
)

// The words of lines that begin and end a block, and what begins a line that is passed over.
const (
	makeWord  = "make"
	endWord   = "end"
	aside     = "#"
	errorWord = "error"
)

// Run does a script in a new house.
func Run(text string) (answers []string, papers []api.Paper, e api.Errno) {
	if len(text) > api.MaxText || len(linesOf(text)) > api.MaxLines {
		return nil, nil, api.ErrLimit
	}
	h := New()
	for part, isWhole := range parts(text) {
		if !isWhole {
			return nil, nil, api.ErrForm
		}
		answers = append(answers, answerOf(h.Do(part)))
	}
	return answers, h.Papers(), api.OK
}

// answerOf returns what a script tells of an answer, or of the error that came instead.
func answerOf(answer string, e api.Errno) string {
	if e != api.OK {
		return joined(errorWord, digits(int(e)))
	}
	return answer
}

// parts tells the lines and blocks of a script, and of each whether it is whole: the last block may lack its end.
func parts(text string) iter.Seq2[string, bool] {
	return func(yield func(string, bool) bool) {
		var part []string
		for _, line := range linesOf(text) {
			if len(part) == 0 && isPassedOver(line) {
				continue
			}
			part = append(part, line)
			if isBegin(part[0]) && line != endWord {
				continue
			}
			if !yield(strings.Join(part, "\n"), true) {
				return
			}
			part = nil
		}
		if len(part) > 0 {
			yield(strings.Join(part, "\n"), false)
		}
	}
}

func isPassedOver(line string) bool { return line == "" || strings.HasPrefix(line, aside) }

func isBegin(line string) bool { return line == makeWord || strings.HasPrefix(line, makeWord+" ") }

// linesOf returns the lines of a text. What is behind the last line feed is one unless it is empty.
func linesOf(text string) []string {
	var all []string
	for line := range strings.Lines(text) {
		all = append(all, strings.TrimSuffix(line, "\n"))
	}
	return all
}
