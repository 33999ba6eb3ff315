package house_test

import (
	"strings"
	"testing"

	"cullet/api"
	"cullet/batch"
	"cullet/house"
)

// goodPapers are papers of all kinds from a works with holds and switches.
func goodPapers(t *testing.T) map[api.PaperKind]api.Paper {
	t.Helper()
	h := works(t, "best b", "safe m", "switch r 1 stop 504", "hold s 11 0 9", "release l r s", "pack k l r s 4 7 180 180", "post k 5 close", "certify k 6 7")
	all := map[api.PaperKind]api.Paper{}
	for _, p := range h.Papers() {
		all[p.Kind] = p
	}
	equal(t, "kinds", len(all), 4)
	return all
}

// TestVerifyKinds: only papers of a listed kind are good or not (P10.1).
func TestVerifyKinds(t *testing.T) {
	for kind, p := range goodPapers(t) {
		equal(t, "good", house.Verify(p), api.OK)
		for _, other := range []api.PaperKind{api.PaNone, api.PaClaim + 1, 17, 255} {
			p.Kind = other
			equal(t, "no kind", house.Verify(p), api.ErrArg)
		}
		for other := api.PaBest; other <= api.PaClaim; other++ {
			p.Kind = other
			if got := house.Verify(p); other != kind && other != api.PaSafe && other != api.PaClaim && got != api.ErrState {
				t.Errorf("of %d as %d: %d", kind, other, got)
			}
		}
	}
	// what nothing is named of is checked with zero values
	for kind, want := range map[api.PaperKind]api.Errno{api.PaNone: api.ErrArg, api.PaBest: api.ErrState, api.PaSafe: api.ErrState, api.PaRelease: api.ErrState, api.PaClaim: api.OK, 5: api.ErrArg} {
		equal(t, "zero paper", house.Verify(api.Paper{Kind: kind}), want)
	}
}

// TestVerifyNamed: what a kind does not name does not matter (P10.1).
func TestVerifyNamed(t *testing.T) {
	all := goodPapers(t)
	bad := api.Paper{
		Batch: api.Batch{Wanted: -1}, Recipe: []int{-1}, Proof: api.Proof{Scale: -1}, Machine: api.Machine{Cycle: -1}, Switches: []api.Switch{{Section: -1}},
		Checker: api.Checker{Every: -1}, Runs: []api.Run{{Time: -1}}, Shop: api.Shop{Cavities: -1}, Holds: []api.Hold{{Mould: -1}}, Lots: []int{-1}, Book: api.Book{Hold: span(1, 0)},
	}
	best, p := bad, all[api.PaBest]
	best.Kind, best.Batch, best.Recipe, best.Proof = p.Kind, p.Batch, p.Recipe, p.Proof
	safe, p := bad, all[api.PaSafe]
	safe.Kind, safe.Machine = p.Kind, p.Machine
	release, p := bad, all[api.PaRelease]
	release.Kind, release.Checker, release.Runs, release.Shop, release.Machine, release.Switches, release.Holds, release.Lots = p.Kind, p.Checker, p.Runs, p.Shop, p.Machine, p.Switches, p.Holds, p.Lots
	claim, p := bad, all[api.PaClaim]
	claim.Kind, claim.Book = p.Kind, p.Book
	for _, x := range []api.Paper{best, safe, release, claim} {
		equal(t, "with what it does not name", house.Verify(x), api.OK)
		bad.Kind = x.Kind
		equal(t, "without what it names", house.Verify(bad), api.ErrState)
	}
}

// TestVerifySpoiled: a paper of which one thing is spoiled that its kind names is not good (P10.1).
func TestVerifySpoiled(t *testing.T) {
	for kind, changes := range map[api.PaperKind][]func(p *api.Paper){
		api.PaBest: {
			func(p *api.Paper) { p.Recipe = nil },
			func(p *api.Paper) { p.Recipe = append(p.Recipe, 0) },
			func(p *api.Paper) { p.Recipe[0] = -20 },
			func(p *api.Paper) { p.Recipe[0] = 10001 },
			func(p *api.Paper) { p.Recipe[0], p.Recipe[1] = 82, 41 },     // passes, but is not allowed
			func(p *api.Paper) { p.Recipe[0], p.Recipe[1] = 80, 60 },     // allowed, but does not pass
			func(p *api.Paper) { p.Recipe[0], p.Recipe[1] = 220, 100 },   // passes, but is more than may be
			func(p *api.Paper) { p.Batch.Wanted = 0 },                    // an error of all
			func(p *api.Paper) { p.Batch.Materials[0].Most = 60 },        // not allowed any more
			func(p *api.Paper) { p.Batch.Shares[0] = span(790, 800) },    // does not pass any more
			func(p *api.Paper) { p.Proof.Weights = p.Proof.Weights[1:] }, // an error of the proof
			func(p *api.Paper) { p.Proof.Scale = -1 },
			func(p *api.Paper) { p.Proof.Weights[0] = -1 },
			func(p *api.Paper) { p.Proof.Scale = api.MaxScale + 1 },
		},
		api.PaSafe: {
			func(p *api.Paper) { p.Machine.Cycle = 0 },
			func(p *api.Paper) { p.Machine.Spread = 51 },
			func(p *api.Paper) { p.Machine.Offsets[1] = 10 },
			func(p *api.Paper) { p.Machine.Modes[1].Gob = 60 },
			func(p *api.Paper) { p.Machine.Guards = []api.Guard{{Kind: api.GuSame}} },
		},
		api.PaRelease: {
			func(p *api.Paper) { p.Lots = nil },
			func(p *api.Paper) { p.Lots = p.Lots[1:] },
			func(p *api.Paper) { p.Lots = append(p.Lots, 9) },
			func(p *api.Paper) { p.Lots[0], p.Lots[1] = p.Lots[1], p.Lots[0] },
			func(p *api.Paper) { p.Lots[0]-- },
			func(p *api.Paper) { p.Holds = nil },
			func(p *api.Paper) { p.Holds = append(p.Holds, api.Hold{Mould: 1, From: 0, To: 100}) },
			func(p *api.Paper) { p.Holds[0].Mould = 2 },
			func(p *api.Paper) { p.Holds[0].From = -1 },
			func(p *api.Paper) { p.Runs = p.Runs[1:] },
			func(p *api.Paper) { p.Runs[6].Out = false },
			func(p *api.Paper) { p.Runs[0].Kind = 3 },
			func(p *api.Paper) { p.Checker.Every = 299 },
			func(p *api.Paper) { p.Checker.Flaws[0].Need = 2 },
			func(p *api.Paper) { p.Checker.Every = 0 },
			func(p *api.Paper) { p.Shop.Low, p.Shop.High = 190, 200 },
			func(p *api.Paper) { p.Shop.Moulds[0].Number = 12 },
			func(p *api.Paper) { p.Switches[0] = api.Switch{Section: 0, Time: 4, Mode: 1} },
			func(p *api.Paper) { p.Switches[0].Mode = 2 },
			func(p *api.Paper) { p.Machine.Spread = 51 },
			func(p *api.Paper) { p.Machine.Modes[0].Gob = 4 },
		},
		api.PaClaim: {
			func(p *api.Paper) { p.Book.Hold = span(900, 1000) },
			func(p *api.Paper) { p.Book.Hold = span(1, 0) },
			func(p *api.Paper) { p.Book.First = span(1200, 1200) },
			func(p *api.Paper) { p.Book.Posts[0].Recycled.Low = 599 },
			func(p *api.Paper) { p.Book.Posts[0].Kilos = span(199, 199) },
			func(p *api.Paper) { p.Book.Posts[1].Kilos.High = 211 },
			func(p *api.Paper) { p.Book.Posts[2].Kilos = span(100, 179) },
			func(p *api.Paper) { p.Book.Posts[3].Kilos.Low = 179 },
			func(p *api.Paper) { p.Book.Posts[5].Share = 572 },
			func(p *api.Paper) { p.Book.Posts[5].Share = 0 },
			func(p *api.Paper) { p.Book.Posts[5].Lot = 8 },
			func(p *api.Paper) { p.Book.Posts[5].Time = 4 },
			func(p *api.Paper) { p.Book.Posts[4].Kind = 0 },
		},
	} {
		for i, change := range changes {
			p := goodPapers(t)[kind]
			change(&p)
			if got := house.Verify(p); got != api.ErrState {
				t.Errorf("kind %d, change %d: got %d", kind, i, got)
			}
		}
	}
}

// TestVerifyBound: a proof must bound the cost of the recipe, which need not be the cheapest one (P10.1).
func TestVerifyBound(t *testing.T) {
	p := goodPapers(t)[api.PaBest]
	none := make([]int, len(p.Proof.Weights))
	for _, x := range []struct {
		recipe []int
		proof  api.Proof
		want   api.Errno
	}{
		{[]int{100, 60}, p.Proof, api.OK},
		{[]int{80, 40}, api.Proof{Scale: 1, Weights: none}, api.OK},
		{[]int{80, 40}, api.Proof{Scale: 0, Weights: none}, api.OK}, // nothing is proved, but nothing wrong either
		{[]int{80, 60}, api.Proof{Scale: 1, Weights: none}, api.ErrState},
	} {
		p.Recipe, p.Proof = x.recipe, x.proof
		equal(t, "recipe and proof", house.Verify(p), x.want)
	}
}

// TestVerifyEqual: a bound may be the cost itself, as it must be of a recipe of all Leasts (P10.1).
func TestVerifyEqual(t *testing.T) {
	least := strings.Replace(strings.Replace(batchText, "1 0 0 200", "1 0 80 200", 1), "4 0 0 100", "4 0 40 100", 1)
	h := with(t, block("batch", "b", least))
	answers(t, h, "best b", "best: 80 40 cost 240 [0]")
	p := lastPaper(t, h)
	bound, _, e := batch.Bound(p.Batch, p.Proof)
	equal(t, "bound and error", []int{bound, int(e)}, []int{240, 0})
	equal(t, "paper", house.Verify(p), api.OK)
}

// TestVerifyNoRecipe: where there is no recipe there is no paper (P10.1, P10.2).
func TestVerifyNoRecipe(t *testing.T) {
	h := with(t, block("batch", "b", poorText))
	answers(t, h, "best b", "best: none")
	equal(t, "papers", len(h.Papers()), 0)
}
