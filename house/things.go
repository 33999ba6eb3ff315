package house

import (
	"slices"

	"cullet/api"
	"cullet/batch"
	"cullet/forming"
	"cullet/furnace"
	"cullet/inspect"
	"cullet/ledger"
	"cullet/moulds"
)

// thing is what a house keeps under a name.
type thing interface {
	// write puts it on a paper that rests on it.
	write(p *api.Paper)
}

// The kinds of things.
type (
	batchThing   struct{ api.Batch }
	furnaceThing struct{ api.Furnace }
	machineThing struct{ api.Machine }
	checkerThing struct{ api.Checker }
	bookThing    struct{ api.Book }
	shopThing    struct {
		api.Shop
		holds []api.Hold
	}
	logThing struct {
		checkerThing
		runs []api.Run
	}
	runThing struct {
		machineThing
		switches []api.Switch
	}
)

func (x batchThing) write(p *api.Paper) { p.Batch = x.Batch }

// write does nothing, as no paper rests on a furnace.
func (x furnaceThing) write(*api.Paper) {}

func (x machineThing) write(p *api.Paper) { p.Machine = x.Machine }

func (x checkerThing) write(p *api.Paper) { p.Checker = x.Checker }

func (x bookThing) write(p *api.Paper) { p.Book = x.Book }

func (x shopThing) write(p *api.Paper) { p.Shop, p.Holds = x.Shop, x.holds }

func (x logThing) write(p *api.Paper) {
	x.checkerThing.write(p)
	p.Runs = x.runs
}

func (x runThing) write(p *api.Paper) {
	x.machineThing.write(p)
	p.Switches = x.switches
}

// deed is a line or a block that is being done. What it makes is kept apart until all is done, so that nothing has changed if something goes wrong.
type deed struct {
	stock *stock

	// what the line says
	words   [places]string
	numbers [places]int
	kilos   []int
	sights  []api.Sight
	text    string // of a block

	// the things that it names, one of a kind at most
	batch   batchThing
	furnace furnaceThing
	machine machineThing
	shop    shopThing
	checker checkerThing
	book    bookThing
	log     logThing
	run     runThing

	// what it makes
	name   string
	thing  thing
	papers []api.Paper
}

// use keeps a thing that the line names, and returns the place in which such a name stands.
func (d *deed) use(x thing) place {
	switch x := x.(type) {
	case batchThing:
		d.batch = x
		return theBatch
	case furnaceThing:
		d.furnace = x
		return theFurnace
	case machineThing:
		d.machine = x
		return theMachine
	case shopThing:
		d.shop = x
		return theShop
	case checkerThing:
		d.checker = x
		return theChecker
	case bookThing:
		d.book = x
		return theBook
	case logThing:
		d.log = x
		return theLog
	case runThing:
		d.run = x
		return theRun
	}
	return nowhere
}

// keep has a thing stand under the name in this place of the line, when the line is done.
func (d *deed) keep(p place, x thing) { d.name, d.thing = d.words[p], x }

// paper adds a paper that rests on things, and returns its number as it stands in an answer.
func (d *deed) paper(p api.Paper, things ...thing) string {
	for _, x := range things {
		x.write(&p)
	}
	d.papers = append(d.papers, p)
	return "[" + digits(len(d.stock.papers)+len(d.papers)-1) + "]"
}

// finish puts into the house what the line has made.
func (d *deed) finish() {
	s := d.stock
	if d.thing != nil {
		if s.things[d.name] == nil {
			s.names = append(s.names, d.name)
		}
		s.things[d.name] = d.thing
	}
	s.papers = append(s.papers, d.papers...)
}

// keepNew keeps the thing of a block.
func (d *deed) keepNew(x thing) string {
	d.keep(newName, x)
	return joined("made", d.name)
}

func (d *deed) makeBatch() string { return d.keepNew(batchThing{parsed(batch.Parse(d.text))}) }

func (d *deed) makeFurnace() string { return d.keepNew(furnaceThing{parsed(furnace.Parse(d.text))}) }

func (d *deed) makeMachine() string { return d.keepNew(machineThing{parsed(forming.Parse(d.text))}) }

func (d *deed) makeShop() string { return d.keepNew(shopThing{Shop: parsed(moulds.Parse(d.text))}) }

func (d *deed) makeChecker() string { return d.keepNew(checkerThing{parsed(inspect.Parse(d.text))}) }

func (d *deed) makeLog() string {
	runs := parsed(inspect.Read(d.checker.Checker, d.text))
	return d.keepNew(logThing{d.checker, runs})
}

func (d *deed) makeBook() string {
	b := parsed(ledger.Read(d.text))
	needOK(bookError(b))
	need(!slices.ContainsFunc(b.Posts, isPack), api.ErrScope)
	return d.keepNew(bookThing{b})
}

// parsed returns what a text says; it leaves the line if the text is wrong.
func parsed[T any](x T, _ int, e api.Errno) T { return got(x, e) }

// got returns a result that must come without an error.
func got[T any](x T, e api.Errno) T {
	needOK(e)
	return x
}
