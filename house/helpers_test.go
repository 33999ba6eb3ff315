package house_test

import (
	"math/rand"
	"reflect"
	"slices"
	"strconv"
	"strings"
	"testing"

	"cullet/api"
	"cullet/house"
)

// The texts of things: the batch of chapter 1, the furnace of chapter 2 with a mode in which nothing is pulled, and two sections that take gobs at 5, 105 and so on, and at 55, 155 and so on.
const (
	batchText = "oxides si na\nwanted 100\nredox -9999 9999\nshares 700 800 200 300\n" +
		"material sand 1 0 0 200 20 980 1000 0 0\nmaterial soda 4 0 0 100 20 0 0 570 580\n"
	furnaceText = "modes day rest\nzone melt 100\nzone nose 50\nstream - melt 10 0\nstream melt nose 20 0\nstream nose melt 10 0\nstream nose - 10 0\n"
	machineText = "cycle 100 20\noffsets 0 50\nmode run 5 2\nmode stop -1 0\n"
	shopText    = "shop 1 200 210 0\nmould 11 3\nmould 12 100\nmount 11 0 0 0 1000\nmount 12 1 0 0 1000\n"
	lineText    = "every 1000\nflaw crack 1\nstation eye\nclaim crack 1 50\n"
	// logText clears the lots 1, 6, 7 and 8, blocks 2, and leaves 3 open.
	logText = "100 sample eye crack found\n204 bottle 6 11 pass\n205 bottle 1 11 pass\n216 bottle 7 11 pass\n260 bottle 8 12 pass\n305 bottle 9 12 out\n400 sample eye crack found\n" +
		"500 bottle 2 12 pass\n600 sample eye crack missed\n601 sample eye crack found\n700 bottle 3 12 pass\n"
	bookText = "hold 900 1300 1000 1000\n1 in 500 500 600 700 0 0\n2 charge 0 200 210\n3 pull 190 200\n"
	// armText is a machine of two mechanisms that are out together.
	armText = "cycle 100 0\noffsets 0\nmechanism arm 0 0 100\nmechanism plug 0 0 100\nmode run 5 0\nmotion 0:0 20:100 60:100 80:0\nmotion 0:0 20:100 60:100 80:0\n"
	// apartText is that machine with a guard that it keeps.
	apartText = armText + "same arm 0 0 plug 100 100\n"
	// crashText is a machine of which two mechanisms meet.
	crashText = armText + "same arm 50 100 plug 50 100\nsame arm 60 100 plug 60 100\nsame arm 0 0 plug 100 100\n"
	// closeText is a machine whose gobs come too close, though it keeps all its guards.
	closeText = "cycle 100 60\noffsets 0 50\nmode run 5 0\n"
	poorText  = "oxides si na\nwanted 100\nredox -9999 9999\nshares 999 1000 0 1000\n" +
		"material sand 1 0 0 200 20 980 1000 0 0\nmaterial soda 4 0 20 100 20 0 0 570 580\n"
)

// block is the block that makes a thing; kind and name are one word each, or two for a log.
func block(kind, name, text string) string { return "make " + kind + " " + name + "\n" + text + "end" }

// setUp is what makes a works with a thing of each kind.
func setUp() []string {
	return []string{
		block("batch", "b", batchText), block("furnace", "f", furnaceText), block("machine", "m", machineText), block("shop", "s", shopText),
		block("line", "c", lineText), block("log", "l c", logText), block("book", "k", bookText), "run r m",
	}
}

// works is a house with a thing of each kind, in which lines have been done.
func works(t *testing.T, lines ...string) *house.House {
	t.Helper()
	return with(t, slices.Concat(setUp(), lines)...)
}

// with is a house in which lines have been done.
func with(t *testing.T, lines ...string) *house.House {
	t.Helper()
	h := house.New()
	for _, line := range lines {
		if _, e := h.Do(line); e != api.OK {
			t.Fatalf("%.200q: error %d", line, e)
		}
	}
	return h
}

// answers checks what a house answers to a line.
func answers(t *testing.T, h *house.House, line, want string) {
	t.Helper()
	if got, e := h.Do(line); e != api.OK || got != want {
		t.Errorf("%.200q: got %q, error %d; want %q", line, got, e, want)
	}
}

// tells checks what a new works answers to a line.
func tells(t *testing.T, line, want string) {
	t.Helper()
	answers(t, works(t), line, want)
}

// refuses checks that a house has this error for a line, and that this changes nothing that can be seen.
func refuses(t *testing.T, h *house.House, line string, want api.Errno) {
	t.Helper()
	before := seen(h)
	if got, e := h.Do(line); e != want || got != "" {
		t.Errorf("%.200q: got %q, error %d; want error %d", line, got, e, want)
	}
	equal(t, "behind "+line, seen(h), before)
}

// fails checks that a new works has this error for a line.
func fails(t *testing.T, line string, want api.Errno) {
	t.Helper()
	refuses(t, works(t), line, want)
}

// seen is all that a house tells of itself.
func seen(h *house.House) []any {
	all := []any{h.Names(), h.Papers()}
	for _, name := range h.Names() {
		b, is := h.Book(name)
		all = append(all, b, is)
	}
	return all
}

// lastPaper returns the last paper of a house.
func lastPaper(t *testing.T, h *house.House) api.Paper {
	t.Helper()
	all := h.Papers()
	if len(all) == 0 {
		t.Fatal("no paper")
	}
	return all[len(all)-1]
}

// script joins lines and blocks.
func script(lines ...string) string { return strings.Join(lines, "\n") }

func equal(t *testing.T, what string, got, want any) {
	t.Helper()
	if !reflect.DeepEqual(got, want) {
		t.Errorf("%s: got %v, want %v", what, got, want)
	}
}

// list checks a list, of which nil is an empty one.
func list[T comparable](t *testing.T, what string, got, want []T) {
	t.Helper()
	if !slices.Equal(got, want) {
		t.Errorf("%s: got %v, want %v", what, got, want)
	}
}

func newRand(seed int64) *rand.Rand { return rand.New(rand.NewSource(seed)) }

func decimal(n int) string { return strconv.Itoa(n) }

// numbers are the numbers of words.
func numbers(words string) []int {
	var all []int
	for _, word := range strings.Fields(words) {
		n, err := strconv.Atoi(word)
		if err != nil {
			panic(err)
		}
		all = append(all, n)
	}
	return all
}
