package house_test

import (
	"fmt"
	"math"
	"math/rand"
	"reflect"
	"slices"
	"strings"
	"testing"

	"cullet/api"
	"cullet/house"
)

var wildNumbers = []int{0, 1, -1, 2, 3, 5, 11, 12, 100, 999, 1000, 1001, 10000, 1000000, 1000001, 1000000000, 1000000001, -1000000000, math.MaxInt, math.MinInt, math.MaxInt - 1, 1 << 31, 1 << 62}

// wildText is a script of which a few bytes or lines are others.
func wildText(r *rand.Rand, text string) string {
	for range 1 + r.Intn(3) {
		lines := strings.Split(text, "\n")
		i, j := r.Intn(len(lines)), r.Intn(len(lines))
		switch r.Intn(6) {
		case 0:
			lines[i] = lines[j]
		case 1:
			lines = slices.Delete(lines, i, i+1)
		case 2:
			lines[i] += []string{" ", " 1", "\r", "\n", "\nend", "\x00", "\xff", " 99999999999999999999"}[r.Intn(8)]
		case 3:
			words := strings.Split(lines[i], " ")
			words[r.Intn(len(words))] = []string{"", "x", "0", "-1", "9999999999", "-9999999999", "end", "make", "5:0", "b", "k"}[r.Intn(11)]
			lines[i] = strings.Join(words, " ")
		case 4:
			lines = append(lines[:i], lines[j:]...)
		default:
			b := []byte(text)
			if len(b) > 0 {
				b[r.Intn(len(b))] = byte(r.Intn(256))
			}
			lines = strings.Split(string(b), "\n")
		}
		text = strings.Join(lines, "\n")
	}
	return text
}

// allLines are lines of all kinds that a works does.
func allLines() []string {
	all := setUp()
	for _, x := range samples() {
		all = append(all, x.line)
	}
	return append(all, "post k 5 close", "certify k 6 7", "best b", "release l r s", "audit")
}

// TestAnyScript: whatever a script is, Run and Do return, tell the same again, and with an error nothing else (P0.1, R2, R8, R10).
func TestAnyScript(t *testing.T) {
	r := newRand(7001)
	good := script(allLines()...)
	kinds := map[api.Errno]int{}
	for range 500 {
		text := wildText(r, good)
		answers, papers, e := house.Run(text)
		kinds[e]++
		if e != api.OK && (len(answers) > 0 || len(papers) > 0) {
			t.Fatal(e, answers, papers)
		}
		for _, x := range answers {
			if n, is := strings.CutPrefix(x, "error "); is {
				kinds[api.Errno(numbers(n)[0])]++
			}
		}
		again, morePapers, e2 := house.Run(text)
		list(t, "answers", again, answers)
		equal(t, "papers", morePapers, papers)
		equal(t, "error", e2, e)
		for _, p := range papers {
			equal(t, "paper", house.Verify(p), api.OK)
		}
	}
	for _, e := range []api.Errno{api.OK, api.ErrArg, api.ErrForm, api.ErrName, api.ErrTwice, api.ErrNone, api.ErrState, api.ErrScope, api.ErrClash, api.ErrSum} {
		if kinds[e] == 0 {
			t.Error("no error", e)
		}
	}
}

// TestAnyLine: whatever a line is, a house does it or has nothing but an error (P0.1, R2, R8).
func TestAnyLine(t *testing.T) {
	r := newRand(7002)
	h := works(t)
	for range 4000 {
		all := allLines()
		line := wildText(r, all[r.Intn(len(all))])
		before := len(h.Names()) + len(h.Papers())
		answer, e := h.Do(line)
		if e != api.OK && (answer != "" || len(h.Names())+len(h.Papers()) != before) {
			t.Fatalf("%q: %q, error %d", line, answer, e)
		}
		if e == api.OK && (answer == "" || strings.Contains(answer, "\n") || strings.Contains(answer, "  ") || strings.Trim(answer, " ") != answer) {
			t.Fatalf("%q: %q", line, answer)
		}
		if len(h.Names()) == api.MaxThings || len(h.Papers()) > 40 {
			h = works(t)
		}
	}
	for range 500 {
		b := make([]byte, r.Intn(60))
		for i := range b {
			b[i] = byte(r.Intn(256))
		}
		h.Do(string(b))
		house.Run(string(b))
		h.Book(string(b))
	}
}

// spoil has one number, word or list in a value be another one.
func spoil(r *rand.Rand, v reflect.Value) {
	switch v.Kind() {
	case reflect.Struct:
		spoil(r, v.Field(r.Intn(v.NumField())))
	case reflect.Slice:
		switch n := v.Len(); {
		case n == 0 || r.Intn(8) == 0:
			v.Set(reflect.MakeSlice(v.Type(), r.Intn(4), 5))
		case r.Intn(8) == 0:
			v.Set(reflect.AppendSlice(v, v))
		case r.Intn(8) == 0:
			v.Set(v.Slice(0, r.Intn(n)))
		default:
			spoil(r, v.Index(r.Intn(n)))
		}
	case reflect.String:
		v.SetString([]string{"", "si", "run", "X", "\xff"}[r.Intn(5)])
	case reflect.Bool:
		v.SetBool(r.Intn(2) > 0)
	case reflect.Int:
		v.SetInt(int64(wildNumbers[r.Intn(len(wildNumbers))]))
	case reflect.Uint8:
		v.SetUint(uint64(r.Intn(7)))
	}
}

// TestAnyPaper: whatever a paper is, Verify returns, tells the same again, and does not change it (P0.1, P10.1, R4, R8).
func TestAnyPaper(t *testing.T) {
	r := newRand(7003)
	counts := map[api.Errno]int{}
	for range 200 {
		for kind, p := range goodPapers(t) {
			for range 1 + r.Intn(4) {
				spoil(r, reflect.ValueOf(&p).Elem())
			}
			before := fmt.Sprintf("%#v", p)
			e := house.Verify(p)
			counts[e]++
			if e != api.OK && e != api.ErrArg && e != api.ErrState {
				t.Fatal(kind, e)
			}
			if (e == api.ErrArg) != (p.Kind == api.PaNone || p.Kind > api.PaClaim) {
				t.Error("kind", p.Kind, e)
			}
			equal(t, "again", house.Verify(p), e)
			equal(t, "paper", fmt.Sprintf("%#v", p), before)
		}
	}
	if counts[api.OK] < 50 || counts[api.ErrState] < 50 || counts[api.ErrArg] < 10 {
		t.Error("errors", counts)
	}
}
