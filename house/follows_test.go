package house_test

import (
	"slices"
	"strings"
	"testing"

	"cullet/api"
	"cullet/house"
	"cullet/ledger"
)

// shift is lines that a writer has written, and what a house answered.
type shift struct {
	lines   []string
	answers []string
	errors  []api.Errno
}

// work has a house do lines, and looks at it behind each of them.
func work(seed int64, lines int, look func(h *house.House, line string, e api.Errno)) shift {
	var all shift
	m := newModel()
	g := newWriter(newRand(seed), m)
	h := house.New()
	for range lines {
		line := g.line()
		m.does(line)
		answer, e := h.Do(line)
		all.lines, all.answers, all.errors = append(all.lines, line), append(all.answers, answer), append(all.errors, e)
		look(h, line, e)
	}
	return all
}

// TestGood: every paper of a house is good, there and anywhere else, whatever comes behind it (P10.3).
func TestGood(t *testing.T) {
	kinds := map[api.PaperKind]int{}
	for seed := range int64(30) {
		var before []api.Paper
		work(2000+seed, 150, func(h *house.House, line string, e api.Errno) {
			papers := h.Papers()
			for _, p := range papers[len(before):] {
				kinds[p.Kind]++
			}
			if len(before) > 0 {
				equal(t, "papers that were there", papers[:len(before)], before)
			}
			before = papers
		})
		h := house.New()
		for i, p := range before {
			if e := house.Verify(p); e != api.OK {
				t.Errorf("seed %d: paper %d: %d", seed, i, e)
			}
		}
		answers(t, h, "audit", "audit: good 0")
	}
	for kind := api.PaBest; kind <= api.PaClaim; kind++ {
		if kinds[kind] < 10 {
			t.Error("papers of kind", kind, kinds[kind])
		}
	}
}

// TestBooks: books have true stories and certificates that are covered, and posts are only added to them (P10.4).
func TestBooks(t *testing.T) {
	certificates, added := 0, 0
	for seed := range int64(20) {
		before := map[string]api.Book{}
		work(3000+seed, 200, func(h *house.House, line string, e api.Errno) {
			for _, name := range h.Names() {
				b, is := h.Book(name)
				if !is {
					continue
				}
				n, _, _, e := ledger.Wrong(b)
				m, e2 := ledger.Covered(b)
				if e != api.OK || e2 != api.OK || n != len(b.Posts) || m != n {
					t.Fatalf("seed %d: %q: %v", seed, line, b)
				}
				old, was := before[name]
				if was && (old.Hold != b.Hold || old.First != b.First || len(old.Posts) > len(b.Posts) || !slices.Equal(old.Posts, b.Posts[:len(old.Posts)])) {
					t.Fatalf("seed %d: %q: %v behind %v", seed, line, b, old)
				}
				for _, p := range b.Posts[len(old.Posts):] {
					added++
					if p.Kind == api.PoClaim {
						certificates++
					}
					if was && (p.Kind == api.PoClaim) != strings.HasPrefix(line, "certify ") || (p.Kind == api.PoPack) != strings.HasPrefix(line, "pack ") {
						t.Fatalf("seed %d: %q: %v", seed, line, p)
					}
				}
				before[name] = b
			}
		})
	}
	if certificates < 20 || added < 500 {
		t.Error("certificates and posts", certificates, added)
	}
}

// TestReleased: a lot that is packed is released at that moment, with what the line names (P10.5).
func TestReleased(t *testing.T) {
	packed, refused := 0, 0
	for seed := range int64(40) {
		work(4000+seed, 150, func(h *house.House, line string, e api.Errno) {
			words := strings.Fields(line)
			if words[0] != "pack" || len(words) != 9 || !isNumber(words[6]) {
				return
			}
			_, e2 := h.Do("release " + strings.Join(words[2:5], " "))
			isFree := e2 == api.OK && slices.Contains(lastPaper(t, h).Lots, numbers(words[6])[0])
			if e == api.OK {
				packed++
				if !isFree || house.Verify(lastPaper(t, h)) != api.OK {
					t.Fatalf("seed %d: %q is packed", seed, line)
				}
				book, _ := h.Book(words[1])
				p := book.Posts[len(book.Posts)-1]
				equal(t, "post", []int{int(p.Kind), p.Lot, p.Kilos.Low, p.Kilos.High, p.Time}, append([]int{int(api.PoPack)}, numbers(words[6]+" "+words[7]+" "+words[8]+" "+words[5])...))
			} else if e2 == api.OK && !isFree {
				refused++
			}
		})
	}
	if packed < 40 || refused < 10 {
		t.Error("packed and refused", packed, refused)
	}
}

func isNumber(word string) bool {
	return word != "" && len(word) < 10 && strings.Trim(word, "0123456789") == ""
}

// TestRefused: a house that leaves out the lines that are refused answers all others alike, and is the same at the end (P10.6).
func TestRefused(t *testing.T) {
	refused := 0
	for seed := range int64(30) {
		h := house.New()
		all := work(5000+seed, 200, func(x *house.House, line string, e api.Errno) { h = x })
		twin := house.New()
		for i, line := range all.lines {
			if all.errors[i] != api.OK {
				refused++
				continue
			}
			if answer, e := twin.Do(line); answer != all.answers[i] || e != api.OK {
				t.Fatalf("seed %d: %q: got %q, error %d; want %q", seed, line, answer, e, all.answers[i])
			}
		}
		equal(t, "house", seen(twin), seen(h))
		alike(t, twin, h)
	}
	if refused < 1000 {
		t.Error("refused", refused)
	}
}

// alike checks that two houses answer questions alike, and changes that show how much there is.
func alike(t *testing.T, a, b *house.House) {
	t.Helper()
	for _, x := range a.Names() {
		for _, line := range []string{"judge " + x, "entry " + x + " 1000000000 bottle 1 0 out", "post " + x + " 1000000000 close", "share " + x + " 1", "best " + x, "safe " + x, "soonest " + x + " 0 run 0", "switch " + x + " 0 run 1000000000", "hold " + x + " 11 0 0", "release l " + x + " s", "release l2 r " + x, "worn r " + x + " 9000", "made " + x + " s 0 1000"} {
			got, e := a.Do(line)
			want, wantE := b.Do(line)
			if got != want || e != wantE {
				t.Errorf("%q: got %q, error %d; want %q, error %d", line, got, e, want, wantE)
			}
		}
	}
}

// TestTwins: houses that do the same lines give the same answers, also as scripts, and do not mind each other (P10.7).
func TestTwins(t *testing.T) {
	scripts := 0
	for seed := range int64(20) {
		twin, other := house.New(), house.New()
		all := work(6000+seed, 150, func(h *house.House, line string, e api.Errno) {
			other.Do(line)
			other.Do(strings.Replace(line, " ", " x", 1))
			twin.Do(line)
			equal(t, line, seen(twin), seen(h))
		})
		if slices.ContainsFunc(all.lines, isCutOtherwise) {
			continue
		}
		scripts++
		for i, e := range all.errors {
			if e != api.OK {
				all.answers[i] = "error " + decimal(int(e))
			}
			all.lines[i] = strings.TrimSuffix(all.lines[i], "\n")
		}
		got, papers, e := house.Run(script(all.lines...))
		equal(t, "error", e, api.OK)
		list(t, "answers", got, all.answers)
		equal(t, "papers", papers, twin.Papers())
	}
	if scripts < 5 {
		t.Error("scripts", scripts)
	}
}

// isCutOtherwise tells whether a script would cut a line or a block in another way than it was given.
func isCutOtherwise(line string) bool {
	at := strings.Index(line, "\nend")
	return line == "" || line[0] == '#' || strings.HasPrefix(line, "make") != (at >= 0) || at >= 0 && at != len(line)-4
}
