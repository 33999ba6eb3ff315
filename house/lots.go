package house

import (
	"slices"

	"cullet/api"
	"cullet/inspect"
)

// entry puts an entry behind a log.
func (d *deed) entry() string {
	c := d.log.Checker
	before := got(inspect.Write(c, d.log.runs))
	all := parsed(inspect.Read(c, before+d.words[theRow]+"\n"))
	d.keep(theLog, logThing{d.log.checkerThing, all})
	return d.counted(len(all), "entries")
}

// judge tells what is known of lots.
func (d *deed) judge() string {
	clear, blocked, open, e := inspect.Lots(d.log.Checker, d.log.runs)
	needOK(e)
	return listed("clear:", clear, digits) + listed("; blocked:", blocked, digits) + listed("; open:", open, digits)
}

// hold keeps ware of a mould back.
func (d *deed) hold() string {
	mould := slices.IndexFunc(d.shop.Moulds, func(m api.Mould) bool { return m.Number == d.numbers[theNumber] })
	need(mould >= 0, api.ErrNone)
	need(len(d.shop.holds) < api.MaxHolds, api.ErrLimit)
	all := behind(d.shop.holds, api.Hold{Mould: mould, From: d.numbers[theFrom], To: d.numbers[theTo]})
	d.keep(theShop, shopThing{d.shop.Shop, all})
	return d.counted(len(all), "holds")
}

// release tells which lots may leave.
func (d *deed) release() string {
	lots := d.released()
	p := api.Paper{Kind: api.PaRelease, Lots: lots}
	return joined(listed("release:", lots, digits), d.paper(p, d.log, d.run, d.shop))
}

// released returns the lots that may leave by the log, the run and the shop that the line names.
func (d *deed) released() []int {
	return got(inspect.Release(d.log.Checker, d.log.runs, d.shop.Shop, d.run.Machine, d.run.switches, d.shop.holds))
}
