package house_test

import (
	"reflect"
	"strconv"
	"strings"
	"testing"

	"cullet/api"
	"cullet/house"
)

// TestNew: a new house has nothing, and is no other one (P10.2).
func TestNew(t *testing.T) {
	h := house.New()
	list(t, "names", h.Names(), nil)
	equal(t, "papers", len(h.Papers()), 0)
	answers(t, h, "audit", "audit: good 0")
	works(t, "best b")
	list(t, "names beside another house", h.Names(), nil)
	if _, is := h.Book("k"); is {
		t.Error("a book of another house")
	}
}

// TestNotMade: a house that New did not make does nothing (R3).
func TestNotMade(t *testing.T) {
	for _, h := range []*house.House{nil, {}} {
		for range 2 {
			for _, line := range []string{"", "audit", "no line", block("batch", "b", batchText), strings.Repeat("x", api.MaxText+1)} {
				if answer, e := h.Do(line); answer != "" || e != api.ErrNil {
					t.Error(line, answer, e)
				}
			}
			list(t, "names", h.Names(), nil)
			equal(t, "papers", len(h.Papers()), 0)
			if b, is := h.Book("k"); is || !reflect.ValueOf(b).IsZero() {
				t.Error("a book")
			}
		}
	}
}

// TestNames: names stand in the order in which they were given, whatever is done with their things (P10.2).
func TestNames(t *testing.T) {
	h := works(t)
	list(t, "names", h.Names(), []string{"b", "f", "m", "s", "c", "l", "k", "r"})
	for _, line := range []string{"best b", "switch r 0 stop 4", "hold s 11 0 5", "entry l 800 bottle 5 0 pass", "post k 9 close", "run a m", block("book", "0", bookText), block("book", "a0", bookText)} {
		h.Do(line)
	}
	list(t, "names", h.Names(), []string{"b", "f", "m", "s", "c", "l", "k", "r", "a", "a0"})
}

// TestBook: a book is told by its name, if that is the name of a book (P10.2).
func TestBook(t *testing.T) {
	h := works(t, "post k 4 close")
	b, is := h.Book("k")
	equal(t, "is", is, true)
	equal(t, "furnace", []api.Span{b.Hold, b.First}, []api.Span{{Low: 900, High: 1300}, {Low: 1000, High: 1000}})
	list(t, "posts", b.Posts, []api.Post{
		{Time: 1, Kind: api.PoIn, Kilos: span(500, 500), Recycled: span(600, 700)}, {Time: 2, Kind: api.PoCharge, Kilos: span(200, 210)},
		{Time: 3, Kind: api.PoPull, Kilos: span(190, 200)}, {Time: 4, Kind: api.PoClose},
	})
	for _, name := range append(h.Names(), "", "K", "kk", "k ", "\xff", strings.Repeat("k", 99)) {
		b, is := h.Book(name)
		equal(t, name, is, name == "k")
		if !is && !reflect.ValueOf(b).IsZero() {
			t.Error(name, b)
		}
	}
}

func span(low, high int) api.Span { return api.Span{Low: low, High: high} }

// TestPapers: papers have just what their kinds name, as it was when they came (P10.2).
func TestPapers(t *testing.T) {
	h := works(t, "hold s 12 0 5", "switch r 1 stop 54", "best b", "safe m", "release l r s", "pack k l r s 4 7 180 180", "post k 5 close", "certify k 6 7")
	before := h.Papers()
	equal(t, "papers", len(before), 4)
	equal(t, "best", before[0], api.Paper{Kind: api.PaBest, Batch: before[0].Batch, Recipe: []int{80, 40}, Proof: before[0].Proof})
	list(t, "oxides", before[0].Batch.Oxides, []string{"si", "na"})
	equal(t, "safe", before[1], api.Paper{Kind: api.PaSafe, Machine: before[1].Machine})
	list(t, "offsets", before[1].Machine.Offsets, []int{0, 50})
	releasePaper(t, before[2], before[1].Machine)
	equal(t, "claim", before[3], api.Paper{Kind: api.PaClaim, Book: before[3].Book})
	b, _ := h.Book("k")
	equal(t, "book", before[3].Book, b)
	// what comes later is on no paper that was there
	for _, line := range []string{"hold s 11 0 9", "switch r 0 stop 54", "entry l 800 bottle 1 11 pass", "pack k l r s 7 6 10 10"} {
		if _, e := h.Do(line); e != api.OK {
			t.Fatal(line, e)
		}
	}
	answers(t, h, "release l r s", "release: 6 7 8 [4]")
	after := h.Papers()
	equal(t, "papers that were there", after[:4], before)
	equal(t, "lengths", []int{len(after[4].Runs), len(after[4].Switches), len(after[4].Holds)}, []int{12, 2, 2})
}

// releasePaper checks the paper of a release from the works with a switch and a hold.
func releasePaper(t *testing.T, p api.Paper, m api.Machine) {
	t.Helper()
	equal(t, "release", p, api.Paper{Kind: api.PaRelease, Checker: p.Checker, Runs: p.Runs, Shop: p.Shop, Machine: m, Switches: p.Switches, Holds: p.Holds, Lots: p.Lots})
	equal(t, "line of inspection", p.Checker, api.Checker{Every: 1000, Flaws: []api.Flaw{{Name: "crack", Need: 1}}, Stands: []api.Stand{{Name: "eye", Claims: []api.Claim{{Miss: 1, Of: 50}}}}})
	equal(t, "log", len(p.Runs), 11)
	list(t, "moulds", p.Shop.Moulds, []api.Mould{{Number: 11, Life: 3}, {Number: 12, Life: 100}})
	list(t, "switches", p.Switches, []api.Switch{{Section: 1, Time: 54, Mode: 1}})
	list(t, "holds", p.Holds, []api.Hold{{Mould: 1, From: 0, To: 5}})
	list(t, "lots", p.Lots, []int{1, 6, 7, 8})
}

// wipe sets to zero whatever can be reached through the lists of a value.
func wipe(v reflect.Value) {
	switch v.Kind() {
	case reflect.Slice:
		v = v.Slice(0, v.Cap())
		for i := range v.Len() {
			wipe(v.Index(i))
			v.Index(i).SetZero()
		}
	case reflect.Struct:
		for i := range v.NumField() {
			wipe(v.Field(i))
		}
	}
}

// TestNewMemory: what a house tells shares no memory with it, nor with what else it tells (R4).
func TestNewMemory(t *testing.T) {
	plate := block("batch", "p", batchText+"property heat 0 9000 5 6\n")
	lines := []string{plate, "best p", "best p", "safe m", "safe m", "switch r 0 stop 104", "hold s 11 900 901", "release l r s", "release l r s", "pack k l r s 5 7 9 9", "pack k l r s 5 8 9 9", "post k 5 close", "certify k 6 7", "certify k 6 8",
		block("machine", "n", apartText), "safe n"}
	want := seen(works(t, lines...))
	h := works(t, lines...)
	papers := h.Papers()
	for i := range papers {
		wipe(reflect.ValueOf(&papers[i]).Elem())
		equal(t, "other papers of this result", papers[i+1:], want[1].([]api.Paper)[i+1:])
	}
	b, _ := h.Book("k")
	wipe(reflect.ValueOf(&b).Elem())
	wipe(reflect.ValueOf(h.Names()))
	equal(t, "what the house tells", seen(h), want)
	answers(t, h, "audit", "audit: good 9")

	_, papers, _ = house.Run(script(append(setUp(), lines...)...))
	for i := range papers {
		wipe(reflect.ValueOf(&papers[i]).Elem())
		equal(t, "other papers of this script", papers[i+1:], want[1].([]api.Paper)[i+1:])
	}
}

// many is a house with as many things as may be.
func many(t *testing.T) *house.House {
	t.Helper()
	h := works(t)
	for i := len(h.Names()); i < api.MaxThings; i++ {
		answers(t, h, "run n"+strconv.Itoa(i)+" m", "run n"+strconv.Itoa(i))
	}
	return h
}

// TestMany: there are not more than MaxThings things (P10.2).
func TestMany(t *testing.T) {
	h := many(t)
	equal(t, "names", len(h.Names()), api.MaxThings)
	for _, line := range append(setUp(), block("batch", "x", ""), block("log", "x c", "x\n"), "run x m") {
		want := api.ErrTwice
		if strings.Contains(line, " x") {
			want = api.ErrLimit
		}
		refuses(t, h, line, want)
	}
	refuses(t, h, "run x k", api.ErrNone)
	refuses(t, h, block("log", "x k", ""), api.ErrNone)
	refuses(t, h, block("thing", "x", ""), api.ErrForm)
	// other lines make none
	answers(t, h, "switch n30 0 stop 4", "n30: 1 switches")
	answers(t, h, "best b", "best: 80 40 cost 240 [0]")
}
