package ledger_test

import (
	"math/big"
	"math/rand"
	"testing"

	"cullet/api"
	"cullet/batch"
	"cullet/furnace"
	"cullet/ledger"
)

// trueHeap is what a heap really is: milligrams that are left, and thousandths that are recycled, or lost.
type trueHeap struct {
	left     int
	recycled *big.Rat
	loss     int
}

// truePeriod is what really was charged and packed in a period, in milligrams.
type truePeriod struct{ glass, recycled, gases, packed *big.Rat }

func newPeriod() truePeriod {
	return truePeriod{new(big.Rat), new(big.Rat), new(big.Rat), new(big.Rat)}
}

// share is how many thousandths of the glass really are recycled; false if there is none.
func (p truePeriod) share() (*big.Rat, bool) {
	if p.glass.Sign() == 0 {
		return nil, false
	}
	x := new(big.Rat).Quo(p.recycled, p.glass)
	return x.Mul(x, quotient(1000, 1)), true
}

// trueLot is a lot's milligrams, and the period in which it was packed.
type trueLot struct{ number, period, weight int }

// works are what really happens, and its book, in which all is known within errors of some kilograms and thousandths.
type works struct {
	r              *rand.Rand
	b              api.Book
	error          int
	furnace, floor int // milligrams
	heaps          []trueHeap
	periods        []truePeriod
	lots           []trueLot
	amounts        []map[[2]int]int // of accounts behind each number of posts
}

const kilo = 1000000 // milligrams

// someWorks is a works that keeps all accounts.
func someWorks(r *rand.Rand, count int) *works {
	w := &works{r: r, error: r.Intn(6), furnace: kilo*300 + r.Intn(kilo*200), periods: []truePeriod{newPeriod()}}
	w.b.First = w.weighed(w.furnace)
	w.b.Hold = span(100, 700)
	w.note()
	for len(w.b.Posts) < count {
		before := len(w.b.Posts)
		w.happen()
		if len(w.b.Posts) > before {
			w.note()
		}
	}
	return w
}

// note keeps what all accounts have now.
func (w *works) note() {
	now := map[[2]int]int{{int(api.AcFurnace), 0}: w.furnace, {int(api.AcFloor), 0}: w.floor}
	for n, h := range w.heaps {
		now[[2]int{int(api.AcHeap), n}] = h.left
	}
	w.amounts = append(w.amounts, now)
}

// around is a span of whole numbers that holds a number, and is at least 0.
func (w *works) around(x *big.Rat) api.Span {
	down := int(new(big.Int).Quo(x.Num(), x.Denom()).Int64())
	up := down
	if !x.IsInt() {
		up++
	}
	return span(max(0, down-w.r.Intn(w.error+1)), up+w.r.Intn(w.error+1))
}

// weighed is what scales tell, in kilograms.
func (w *works) weighed(milligrams int) api.Span { return w.around(quotient(milligrams, kilo)) }

func (w *works) post(p api.Post) {
	p.Time = len(w.b.Posts)
	w.b.Posts = append(w.b.Posts, p)
}

// happen has something happen that may, or nothing.
func (w *works) happen() {
	r := w.r
	now := &w.periods[len(w.periods)-1]
	switch r.Intn(8) {
	case 0:
		w.comeIn()
	case 1, 2:
		w.charge(now)
	case 3, 4:
		x := w.some(w.furnace - 100*kilo)
		w.furnace, w.floor = w.furnace-x, w.floor+x
		w.post(api.Post{Kind: api.PoPull, Kilos: w.weighed(x)})
	case 5:
		x := w.some(w.floor)
		w.floor -= x
		now.packed.Add(now.packed, quotient(x, 1))
		w.lots = append(w.lots, trueLot{len(w.lots), len(w.periods) - 1, x})
		w.post(api.Post{Kind: api.PoPack, Lot: len(w.lots) - 1, Kilos: w.weighed(x)})
	case 6:
		w.breakSome()
	default:
		if r.Intn(3) == 0 {
			w.post(end(0))
			w.periods = append(w.periods, newPeriod())
		}
	}
}

// some is a weight of at most so much.
func (w *works) some(most int) int {
	if w.r.Intn(8) == 0 {
		return most
	}
	return w.r.Intn(most/2 + 1)
}

// comeIn has a heap come in, of which loss and what is recycled are known within errors.
func (w *works) comeIn() {
	if len(w.heaps) >= 20 {
		return
	}
	loss := w.r.Intn(400)
	lost := w.around(quotient(loss, 1))
	recycled := quotient(w.r.Intn((1000-lost.High)*3+1), 3)
	known := w.around(recycled)
	known.High = min(known.High, 1000-lost.High)
	h := trueHeap{w.r.Intn(300 * kilo), recycled, loss}
	w.heaps = append(w.heaps, h)
	w.post(api.Post{Kind: api.PoIn, Kilos: w.weighed(h.left), Recycled: known, Loss: lost})
}

// breakSome breaks glass: of it as much is recycled as really was in the period before.
func (w *works) breakSome() {
	if len(w.heaps) >= 20 {
		return
	}
	recycled := quotient(w.r.Intn(1001), 1)
	if len(w.periods) > 1 {
		if x, is := w.periods[len(w.periods)-2].share(); is {
			recycled = x
		}
	}
	x := w.some(w.floor)
	w.floor -= x
	w.heaps = append(w.heaps, trueHeap{left: x, recycled: recycled})
	w.post(api.Post{Kind: api.PoBack, Kilos: w.weighed(x)})
}

// charge charges something of a heap, as much as the furnace takes.
func (w *works) charge(now *truePeriod) {
	if len(w.heaps) == 0 {
		return
	}
	n := w.r.Intn(len(w.heaps))
	h := &w.heaps[n]
	// whole grams, so that what comes of them is whole milligrams
	x := w.some(min(h.left, 700*kilo-w.furnace)) / 1000
	glass, gases := x*(1000-h.loss), x*h.loss
	h.left -= 1000 * x
	w.furnace += glass
	now.glass.Add(now.glass, quotient(glass, 1))
	now.gases.Add(now.gases, quotient(gases, 1))
	now.recycled.Add(now.recycled, new(big.Rat).Mul(quotient(x, 1), h.recycled))
	w.post(api.Post{Kind: api.PoCharge, Heap: n, Kilos: w.weighed(1000 * x)})
}

// TestBalanced: whatever the true weights are, if they keep all accounts, each true amount lies in what Amount tells (P9.4, P0.1, P0.5).
func TestBalanced(t *testing.T) {
	r := newRand(95)
	amounts, narrow := 0, 0
	for range 120 {
		w := someWorks(r, 40)
		isRight(t, w.b)
		for posts, now := range w.amounts {
			for x, milligrams := range now {
				got, e := ledger.Amount(w.b, api.Account(x[0]), x[1], posts)
				equal(t, "error", e, api.OK)
				if !isIn(quotient(milligrams, 1000), got) {
					t.Fatal("outside", w.b, posts, x, milligrams, got)
				}
				amounts++
				if got.High-got.Low < 20000 {
					narrow++
				}
			}
		}
	}
	if amounts < 20000 || narrow < 5000 {
		t.Fatal("too few amounts", amounts, narrow)
	}
}

// TestSurelyRecycled: the true share, glass, gases and what was packed lie in what is told of a period, and what is recycled of a heap in what is told of that (P9.5, P0.5).
func TestSurelyRecycled(t *testing.T) {
	r := newRand(96)
	count, narrow := 0, 0
	for range 400 {
		w := someWorks(r, 60)
		periods, e := ledger.Periods(w.b)
		equal(t, "error", e, api.OK)
		heaps, e := ledger.Heaps(w.b)
		equal(t, "error", e, api.OK)
		for n, h := range w.heaps {
			equal(t, "recycled of a heap", isIn(h.recycled, heaps[n].Recycled), true)
		}
		for n, p := range w.periods {
			grams := func(x *big.Rat) *big.Rat { return new(big.Rat).Quo(x, quotient(1000, 1)) }
			equal(t, "glass", isIn(grams(p.glass), periods[n].Glass), true)
			equal(t, "recycled", isIn(grams(p.recycled), periods[n].Recycled), true)
			equal(t, "gases", isIn(grams(p.gases), periods[n].Gases), true)
			equal(t, "packed", isIn(new(big.Rat).Quo(p.packed, quotient(kilo, 1)), periods[n].Packed), true)
			got, e := ledger.Share(w.b, n)
			equal(t, "error", e, api.OK)
			if x, is := p.share(); is {
				count++
				equal(t, "share", isIn(x, got), true)
				if got.High-got.Low < 100 {
					narrow++
				}
			}
		}
	}
	if count < 800 || narrow < 200 {
		t.Fatal("too few periods", count, narrow)
	}
}

// TestOnce: while Covered returns the number of posts, what is certified of a period is at most its recycled glass's part that was packed (P9.6, P0.5).
func TestOnce(t *testing.T) {
	r := newRand(97)
	certified, refused := 0, 0
	for range 300 {
		w := someWorks(r, 60)
		b := with(w.b, end(60))
		claimed := map[int]*big.Rat{}
		for _, lot := range w.lots {
			share, e := ledger.Most(b, lot.number)
			equal(t, "error", e, api.OK)
			if r.Intn(4) == 0 {
				share += 1 + r.Intn(1000)
			}
			if share == 0 {
				continue
			}
			longer := with(b, claim(60, lot.number, min(1000, share)))
			if at, _ := ledger.Covered(longer); at < len(longer.Posts) {
				refused++
				continue
			}
			b = longer
			equal(t, "twice", ledger.Check(with(b, claim(60, lot.number, 1))), api.ErrTwice)
			equal(t, "returned", ledger.Check(with(b, comeBack(60, lot.number), claim(60, lot.number, 1))), api.ErrClash)
			if claimed[lot.period] == nil {
				claimed[lot.period] = new(big.Rat)
			}
			claimed[lot.period].Add(claimed[lot.period], quotient(min(1000, share)*lot.weight, 1000))
			certified++
		}
		for period, sum := range claimed {
			p := w.periods[period]
			// without glass only what weighs nothing is certified
			part := new(big.Rat)
			if p.glass.Sign() > 0 {
				part.Mul(p.recycled, p.packed)
				part.Quo(part, p.glass)
			}
			if sum.Cmp(part) > 0 {
				t.Fatal("too much", b, period, sum, part)
			}
		}
	}
	if certified < 200 || refused < 200 {
		t.Fatal("too few certificates", certified, refused)
	}
}

// TestFurnaceHasMore: what was charged as glass, less what was pulled, is what the furnace has more, if all that is known exactly (P9.4).
func TestFurnaceHasMore(t *testing.T) {
	r := newRand(98)
	for range 300 {
		b := api.Book{Hold: span(0, api.MaxMass), First: someSpan(r, 1000)}
		pulled := 0
		b.First.Low += 50000
		b.First.High += 50000
		for range 40 {
			kilos := r.Intn(1000)
			loss := r.Intn(1001)
			switch r.Intn(4) {
			case 0:
				b = with(b, in(0, span(100000, 100000), span(0, 0), span(loss, loss)))
			case 1:
				pulled += kilos
				b = with(b, pull(0, kilos, kilos))
			case 2:
				b = with(b, end(0))
			default:
				if longer := with(b, charge(0, r.Intn(6), kilos, kilos)); ledger.Check(longer) == api.OK {
					b = longer
				}
			}
		}
		periods, e := ledger.Periods(b)
		equal(t, "error", e, api.OK)
		glass := 0
		for _, p := range periods {
			equal(t, "exactly", p.Glass.Low, p.Glass.High)
			glass += p.Glass.Low
		}
		more := glass - 1000*pulled
		amount(t, b, api.AcFurnace, 0, len(b.Posts), span(1000*b.First.Low+more, 1000*b.First.High+more))
	}
}

// TestGlassAndGases: glass and gases of a charge are together what was charged, at one end and at the other one (P9.4, P0.5).
func TestGlassAndGases(t *testing.T) {
	r := newRand(99)
	for range 2000 {
		kilos, loss := someSpan(r, 500), someSpan(r, 1000)
		one := func(kilos, loss api.Span) api.Period {
			all, e := ledger.Periods(book(in(0, span(600, 600), span(0, 0), loss), charge(0, 0, kilos.Low, kilos.High)))
			equal(t, "error", e, api.OK)
			return all[0]
		}
		// the weight is known, and what is lost within bounds
		p := one(span(kilos.Low, kilos.Low), loss)
		equal(t, "least glass", p.Glass.Low+p.Gases.High, 1000*kilos.Low)
		equal(t, "greatest glass", p.Glass.High+p.Gases.Low, 1000*kilos.Low)
		// what is lost is known, and the weight within bounds
		p = one(kilos, span(loss.Low, loss.Low))
		equal(t, "least weight", p.Glass.Low+p.Gases.Low, 1000*kilos.Low)
		equal(t, "greatest weight", p.Glass.High+p.Gases.High, 1000*kilos.High)
	}
}

// someBatch is a batch of up to 4 oxides and 5 materials. Of a material the Highs may be more than all.
func someBatch(r *rand.Rand) api.Batch {
	x := api.Batch{Redox: span(-9999, 9999), Wanted: 1}
	for i := range 1 + r.Intn(4) {
		x.Oxides = append(x.Oxides, string(rune('a'+i)))
		x.Shares = append(x.Shares, span(0, 1000))
	}
	for i := range 1 + r.Intn(5) {
		m := api.Material{Name: string(rune('p' + i)), Most: 1000, Step: 1}
		for range x.Oxides {
			s := someSpan(r, 250)
			s.High += r.Intn(100)
			m.Content = append(m.Content, s)
		}
		x.Materials = append(x.Materials, m)
	}
	return x
}

// TestFromRecipe: the glass of a recipe's posts is batch.Grams of the recipe, all oxides together, and its gases are furnace.Gases (P9.7).
func TestFromRecipe(t *testing.T) {
	r := newRand(100)
	count, above := 0, 0
	for range 3000 {
		x := someBatch(r)
		recipe := make([]int, len(x.Materials))
		isAbove := false
		for i := range recipe {
			recipe[i] = r.Intn(3) * r.Intn(500)
			high := 0
			for _, s := range x.Materials[i].Content {
				high += s.High
			}
			isAbove = isAbove || high > 1000
		}
		posts, e := ledger.Recipe(x, recipe, make([]api.Span, len(recipe)))
		equal(t, "error", e, api.OK)
		b := api.Book{Hold: span(0, api.MaxMass), Posts: posts}
		isRight(t, b)
		periods, e := ledger.Periods(b)
		equal(t, "error", e, api.OK)
		equal(t, "periods", len(periods), 1)
		equal(t, "recycled", periods[0].Recycled, span(0, 0))
		if isAbove {
			above++
			continue
		}
		count++
		grams, e := batch.Grams(x, recipe)
		equal(t, "error", e, api.OK)
		var glass api.Span
		for _, s := range grams {
			glass.Low += s.Low
			glass.High += s.High
		}
		equal(t, "glass", periods[0].Glass, glass)
		gases, e := furnace.Gases(x, recipe)
		fine(t, "gases", periods[0].Gases, e, gases)
		for heap := range len(posts) / 2 {
			amount(t, b, api.AcHeap, heap, len(posts), span(0, 0))
		}
	}
	if count < 1500 || above < 100 {
		t.Fatal("too few recipes", count, above)
	}
}
