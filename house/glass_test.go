package house_test

import (
	"testing"

	"cullet/api"
	"cullet/batch"
	"cullet/furnace"
)

// TestExamples: what the chapter's examples say (P10.2).
func TestExamples(t *testing.T) {
	h := with(t)
	answers(t, h, block("batch", "b", batchText), "made b")
	answers(t, h, "best b", "best: 80 40 cost 240 [0]")
	answers(t, h, "glass b 80 60", "glass: si:692-701 na:299-308")
	answers(t, h, block("book", "k", "hold 0 500 100 100\n"), "made k")
	answers(t, h, "charge k b 5 80 40", "k: 4 posts")
	answers(t, h, "share k 0", "share: 0 0")
	answers(t, h, "post k 6 pull 90 120", "k: 5 posts")
	refuses(t, h, "post k 7 pull 200 200", api.ErrClash)
	answers(t, h, "audit", "audit: good 1")
}

// TestBest: the cheapest recipe comes with a paper, if there is one (P10.2, P10.3).
func TestBest(t *testing.T) {
	h := works(t, block("batch", "poor", poorText))
	for _, name := range []string{"poor", "b", "poor", "b"} {
		before := len(h.Papers())
		answer, e := h.Do("best " + name)
		want := map[string]string{"poor": "best: none", "b": "best: 80 40 cost 240 [" + string(rune('0'+before)) + "]"}[name]
		if e != api.OK || answer != want {
			t.Errorf("%s: got %q, error %d", name, answer, e)
		}
		if name == "poor" {
			equal(t, "papers", len(h.Papers()), before)
			continue
		}
		p := lastPaper(t, h)
		equal(t, "kind", p.Kind, api.PaBest)
		list(t, "recipe", p.Recipe, []int{80, 40})
		bound, none, e := batch.Bound(p.Batch, p.Proof)
		if e != api.OK || none || bound > 240 {
			t.Error("proof", bound, none, e)
		}
	}
	// one material more than may be searched
	wide := "oxides si\nwanted 1\nredox 0 0\nshares 0 1000\nmaterial a 1 0 0 1000 1 1000 1000\nmaterial b 1 0 0 1000 1 1000 1000\n"
	refuses(t, with(t, block("batch", "w", wide)), "best w", api.ErrScope)
}

func TestGlass(t *testing.T) {
	tells(t, "glass b 1 0", "glass: si:1000-1000 na:0-0")
	for _, line := range []string{"glass b", "glass b 80", "glass b 80 60 1", "glass b -1 60", "glass b 80 10001", "glass b 9999999999 -9999999999"} {
		fails(t, line, api.ErrArg)
	}
	fails(t, "glass b 0 0", api.ErrState)
}

// TestChange: the recipes are the halves of the numbers, the oxide is that with the name (P10.2).
func TestChange(t *testing.T) {
	x, _, e := batch.Parse(batchText)
	f, _, e2 := furnace.Parse(furnaceText)
	if e != api.OK || e2 != api.OK {
		t.Fatal(e, e2)
	}
	all := map[string]bool{}
	for oxide, name := range []string{"si", "na"} {
		for _, words := range []string{"80 60 100 60", "100 60 80 60"} {
			for _, target := range []api.Span{span(270, 710), span(725, 735), span(270, 300)} {
				kilos := numbers(words)
				may, must, e := furnace.Change(f, 0, 60, x, kilos[:2], kilos[2:], oxide, target)
				if e != api.OK {
					t.Fatal(e)
				}
				want := "change: " + decimal(may) + " " + decimal(must)
				tells(t, "change f day 60 b "+name+" "+decimal(target.Low)+" "+decimal(target.High)+" "+words, want)
				all[want] = true
			}
		}
	}
	if len(all) < 5 {
		t.Error("answers that differ", len(all))
	}
	tells(t, "change f day 0 b si 0 1000 80 60 100 60", "change: -1 -1")
	for line, want := range map[string]api.Errno{
		"change f night 60 b si 0 1000 80 60 100 60":    api.ErrNone,
		"change f 0 60 b si 0 1000 80 60 100 60":        api.ErrNone,
		"change f Day 60 b si 0 1000 80 60 100 60":      api.ErrNone,
		"change f day 60 b ca 0 1000 80 60 100 60":      api.ErrNone,
		"change f day 60 b 0 0 1000 80 60 100 60":       api.ErrNone,
		"change f day 60 b sand 0 1000 80 60 100 60":    api.ErrNone,
		"change f day 2001 b si 0 1000 80 60 100 60":    api.ErrArg,
		"change f day -1 b si 0 1000 80 60 100 60":      api.ErrArg,
		"change f day 60 b si 0 1000":                   api.ErrArg,
		"change f day 60 b si 0 1000 80 60":             api.ErrArg,
		"change f day 60 b si 0 1000 80 60 100 60 1 1":  api.ErrArg,
		"change f day 60 b si 9 8 80 60 100 60":         api.ErrArg,
		"change f day 60 b si 0 1000000001 80 60 100 6": api.ErrArg,
		"change f day 60 b si 0 1000 0 0 100 60":        api.ErrState,
		"change f day 60 b si 0 1000 80 60 0 0":         api.ErrState,
		"change f rest 60 b si 0 1000 80 60 100 60":     api.ErrState,
	} {
		fails(t, line, want)
	}
	// names of modes and oxides stand in the order in which things are looked for, be they names or not
	fails(t, "change f \xff -1 b \x00 9 8 80 60 100 60", api.ErrNone)
}
