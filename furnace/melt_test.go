package furnace_test

import (
	"math"
	"math/rand"
	"testing"

	"cullet/api"
	"cullet/batch"
	"cullet/furnace"
)

func TestGases(t *testing.T) {
	for _, x := range []struct {
		recipe []int
		want   api.Span
	}{
		{[]int{80, 60, 0}, span(25200, 27400)},
		{[]int{0, 0, 0}, span(0, 0)},
		{[]int{0, 0, 10}, span(0, 10000)}, // dust may bring 1400 thousandths: then it loses nothing
		{[]int{100, 0, 1}, span(0, 3000)},
		{[]int{0, 60, 10}, span(21200, 35800)},
		{[]int{10000, 10000, 10000}, span(200000, 14500000)},
	} {
		got, e := furnace.Gases(mix(), x.recipe)
		equal(t, "error", e, api.OK)
		equal(t, "gases", got, x.want)
	}
}

func TestCharges(t *testing.T) {
	for _, x := range []struct {
		mode, minutes int
		recipe        []int
		want          api.Span
	}{
		{0, 60, []int{80, 60, 0}, span(6, 6)},
		{2, 60, []int{80, 60, 0}, span(27, 27)}, // 3000000 of 114800 to 112600
		{2, 200, []int{80, 60, 0}, span(88, 89)},
		{0, 1, []int{10, 0, 0}, span(1, 2)}, // 10000 of 10000 to 9800
		{0, 1, []int{1, 0, 9000}, span(1, 11)},
		{0, 0, []int{80, 60, 0}, span(0, 0)},
		{1, 60, []int{80, 60, 0}, span(0, 0)},
		{2, api.MaxMinutes, []int{1, 0, 0}, span(100000, 102041)},
	} {
		got, e := furnace.Charges(full(), x.mode, x.minutes, mix(), x.recipe)
		equal(t, "error", e, api.OK)
		equal(t, "charges", got, x.want)
	}
	for _, recipe := range [][]int{{0, 0, 0}, {0, 0, 10000}} {
		got, e := furnace.Charges(full(), 1, 0, mix(), recipe)
		if !onlyError([]any{got, e}, api.ErrState) {
			t.Error(recipe, got, e)
		}
	}
}

// TestBatchErrors: batch's errors come behind those of the furnace, the mode and the minutes, and before all others.
func TestBatchErrors(t *testing.T) {
	good := []int{80, 60, 0}
	fails := func(b api.Batch, recipe []int, want api.Errno) {
		t.Helper()
		gases, e := furnace.Gases(b, recipe)
		charges, g := furnace.Charges(full(), 1, 0, b, recipe)
		may, must, h := furnace.Change(full(), 1, 0, b, recipe, []int{0, 0, 0}, -1, span(1, 0))
		mayToo, mustToo, i := furnace.Change(full(), 1, 0, b, good, recipe, -1, span(1, 0))
		if all := []any{gases, e, charges, g, may, must, h, mayToo, mustToo, i}; !onlyError(all, want) {
			t.Error(b, recipe, all)
		}
	}
	b := mix()
	b.Oxides[1] = "si"
	fails(b, nil, api.ErrTwice)
	fails(api.Batch{}, good, api.ErrArg)
	for _, recipe := range [][]int{nil, {1, 2}, {1, 2, 3, 4}, {-1, 0, 0}, {0, 0, api.MaxKilos + 1}, {0, math.MaxInt, 0}, {math.MinInt, 0, 0}} {
		fails(mix(), recipe, api.ErrArg)
	}
	// of two recipes the old one decides first
	for _, x := range []struct {
		old, now []int
		want     api.Errno
	}{{[]int{0, 0, 9}, nil, api.ErrState}, {nil, []int{0, 0, 9}, api.ErrArg}, {good, []int{0, 0, 9}, api.ErrState}} {
		may, must, e := furnace.Change(full(), 1, 9, mix(), x.old, x.now, 2, span(1, 0))
		if !onlyError([]any{may, must, e}, x.want) {
			t.Error(x, may, must, e)
		}
	}
}

// TestChange: of the oxides 692 to 701 and 299 to 308 thousandths become 717 to 725 and 275 to 283.
func TestChange(t *testing.T) {
	old, now := []int{80, 60, 0}, []int{90, 60, 0}
	for _, x := range []struct {
		minutes, oxide int
		target         api.Span
		may, must      int
	}{
		{0, 0, span(0, 1000), -1, -1},
		{9, 0, span(0, 1000), 0, 0},
		{9, 0, span(0, 691), -1, -1},
		{9, 0, span(0, 701), 0, -1},
		{2, 0, span(0, 701), 0, 0}, // nothing of the new glass is pulled in the first two minutes
		{3, 0, span(0, 701), 0, -1},
		{200, 0, span(703, 725), 2, 13},
		{13, 0, span(703, 725), 2, -1},
		{200, 0, span(705, 725), 3, -1},
		{200, 1, span(0, 300), 0, 10},
		{api.MaxMinutes, 1, span(-5, 290), 6, -1},
	} {
		may, must, e := furnace.Change(two(), 0, x.minutes, mix(), old, now, x.oxide, x.target)
		equal(t, "error", e, api.OK)
		equal(t, "may", may, x.may)
		equal(t, "must", must, x.must)
	}
}

// TestChangeOfAll compares with First of the shares of both recipes.
func TestChangeOfAll(t *testing.T) {
	r := rand.New(rand.NewSource(92))
	for range 1000 {
		f := some(r)
		mode, minutes, oxide := r.Intn(len(f.Modes)), r.Intn(40), r.Intn(2)
		if n, _ := furnace.Pull(f, mode); n == 0 {
			continue
		}
		old := []int{1 + r.Intn(100), r.Intn(100), r.Intn(3)}
		now := []int{1 + r.Intn(100), r.Intn(100), r.Intn(3)}
		before, _ := batch.Glass(mix(), old)
		behind, _ := batch.Glass(mix(), now)
		low := r.Intn(1000)
		target := span(low, low+r.Intn(300))
		var state []api.Span
		for range f.Zones {
			state = append(state, before[oxide])
		}
		wantMay, wantMust, _ := furnace.First(f, state, []api.Phase{phase(mode, minutes, behind[oxide])}, target)
		may, must, e := furnace.Change(f, mode, minutes, mix(), old, now, oxide, target)
		equal(t, "error", e, api.OK)
		equal(t, "may", may, wantMay)
		equal(t, "must", must, wantMust)
	}
}

func TestChangeErrors(t *testing.T) {
	const most = api.MaxState
	good := []int{80, 60, 0}
	for _, oxide := range []int{-1, 2, math.MaxInt, math.MinInt} {
		may, must, e := furnace.Change(full(), 1, 9, mix(), good, good, oxide, span(1, 0))
		if !onlyError([]any{may, must, e}, api.ErrNone) {
			t.Error(oxide, may, must, e)
		}
	}
	for _, target := range []api.Span{span(1, 0), span(-most-1, 0), span(0, most+1), span(math.MinInt, math.MaxInt)} {
		may, must, e := furnace.Change(full(), 1, 9, mix(), good, good, 0, target)
		if !onlyError([]any{may, must, e}, api.ErrArg) {
			t.Error(target, may, must, e)
		}
	}
	for _, minutes := range []int{0, 1, api.MaxMinutes} {
		may, must, e := furnace.Change(full(), 1, minutes, mix(), good, good, 0, span(-most, most))
		if !onlyError([]any{may, must, e}, api.ErrState) {
			t.Error("nothing is pulled:", minutes, may, must, e)
		}
	}
}

// TestMelted: what a recipe brings and what it loses are together what it weighs, unless nothing is lost; and of so many charges the glass is enough for what is pulled, and of one less it is not.
func TestMelted(t *testing.T) {
	r := rand.New(rand.NewSource(91))
	for range 2000 {
		recipe := []int{r.Intn(50), r.Intn(50), r.Intn(2) * r.Intn(50)}
		grams, _ := batch.Grams(mix(), recipe)
		glass := span(grams[0].Low+grams[1].Low, grams[0].High+grams[1].High)
		weight := 1000 * (recipe[0] + recipe[1] + recipe[2])
		gases, e := furnace.Gases(mix(), recipe)
		equal(t, "error", e, api.OK)
		if gases.Low+glass.High != weight && (gases.Low != 0 || glass.High < weight) || gases.High+glass.Low != weight {
			t.Fatal(recipe, gases, glass)
		}
		f, minutes := some(r), r.Intn(300)
		mode := r.Intn(len(f.Modes))
		pull, _ := furnace.Pull(f, mode)
		times, e := furnace.Charges(f, mode, minutes, mix(), recipe)
		if glass.Low == 0 {
			equal(t, "error", e, api.ErrState)
			continue
		}
		equal(t, "error", e, api.OK)
		wanted := 1000 * pull * minutes
		enough := func(n, grams int) bool { return n*grams >= wanted && (n == 0 || (n-1)*grams < wanted) }
		if !enough(times.Low, glass.High) || !enough(times.High, glass.Low) {
			t.Fatal(f, mode, minutes, recipe, times)
		}
	}
}
