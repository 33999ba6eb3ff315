package house

import (
	"slices"

	"cullet/api"
	"cullet/batch"
	"cullet/forming"
	"cullet/furnace"
	"cullet/moulds"
)

// best tells the cheapest recipe of a batch.
func (d *deed) best() string {
	b := d.batch.Batch
	recipe, cost, found, e := batch.Best(b)
	needOK(e)
	if !found {
		return "best: none"
	}
	p := api.Paper{Kind: api.PaBest, Recipe: recipe, Proof: got(batch.Prove(b))}
	return joined(listed("best:", recipe, digits), "cost", digits(cost), d.paper(p, d.batch))
}

// glass tells what the glass of a recipe may be.
func (d *deed) glass() string {
	answer := "glass:"
	for i, s := range got(batch.Glass(d.batch.Batch, d.kilos)) {
		answer = joined(answer, d.batch.Oxides[i]+":"+digits(s.Low)+"-"+digits(s.High))
	}
	return answer
}

// change tells when a change of recipes may be over, and when it surely is.
func (d *deed) change() string {
	mode := indexOf(d.furnace.Modes, d.words[theMode])
	oxide := indexOf(d.batch.Oxides, d.words[theOxide])
	half := len(d.kilos) / 2
	may, must, e := furnace.Change(d.furnace.Furnace, mode, d.numbers[theMinutes], d.batch.Batch, d.kilos[:half], d.kilos[half:], oxide, d.span())
	needOK(e)
	return joined("change:", digits(may), digits(must))
}

// span returns what lies between the ends that the line names.
func (d *deed) span() api.Span { return api.Span{Low: d.numbers[theLow], High: d.numbers[theHigh]} }

// indexOf returns the number of what must be in a list.
func indexOf[T comparable](list []T, x T) int {
	i := slices.Index(list, x)
	need(i >= 0, api.ErrNone)
	return i
}

// safe tells whether a machine is safe.
func (d *deed) safe() string {
	m := d.machine.Machine
	if got(forming.Safe(m)) {
		return joined("safe", d.paper(api.Paper{Kind: api.PaSafe}, d.machine))
	}
	return joined("not", "safe:", digits(len(got(forming.Broken(m)))))
}

// begin makes a run of a machine.
func (d *deed) begin() string {
	got(forming.Drive(d.machine.Machine, nil))
	d.keep(newName, runThing{machineThing: d.machine})
	return joined("run", d.name)
}

// mode returns the number of the mode of the run's machine that the line names.
func (d *deed) mode() int {
	i := slices.IndexFunc(d.run.Modes, func(m api.Mode) bool { return m.Name == d.words[theMode] })
	need(i >= 0, api.ErrNone)
	return i
}

// switchOver puts a switch behind those of a run.
func (d *deed) switchOver() string {
	next := api.Switch{Section: d.numbers[theSection], Time: d.numbers[theTime], Mode: d.mode()}
	all := behind(d.run.switches, next)
	got(forming.Drive(d.run.Machine, all))
	d.keep(theRun, runThing{d.run.machineThing, all})
	return d.counted(len(all), "switches")
}

// behind returns a new list: that of before, and what comes behind it.
func behind[T any](before []T, more ...T) []T { return slices.Concat(before, more) }

// counted tells how much a thing has now.
func (d *deed) counted(n int, what string) string { return joined(d.name+":", digits(n), what) }

// soonest tells when a section may go over to a mode.
func (d *deed) soonest() string {
	at, found, e := forming.Soonest(d.run.Machine, d.run.switches, d.numbers[theSection], d.mode(), d.numbers[theTime])
	needOK(e)
	if !found {
		return "soonest: never"
	}
	return joined("soonest:", digits(at))
}

// made tells how many bottles are made, and how many of them are kept.
func (d *deed) made() string {
	kept := 0
	all := got(moulds.Made(d.shop.Shop, d.run.Machine, d.run.switches, d.numbers[theFrom], d.numbers[theTo]))
	for _, w := range all {
		if w.Kept {
			kept++
		}
	}
	return joined("made:", digits(len(all)), "kept", digits(kept))
}

// worn tells which moulds have made as many bottles as they live.
func (d *deed) worn() string {
	all := got(moulds.Worn(d.shop.Shop, d.run.Machine, d.run.switches, d.numbers[theTo]))
	return listed("worn:", all, d.shown)
}

// shown returns the number that the ware of a mould shows.
func (d *deed) shown(mould int) string { return digits(d.shop.Moulds[mould].Number) }

// trace tells of which ware a flaw may be.
func (d *deed) trace() string {
	sight := api.Sight{Time: d.numbers[theTime], Number: d.numbers[theNumber]}
	all := got(moulds.Sources(d.shop.Shop, d.run.Machine, d.run.switches, sight))
	return listed("trace:", all, func(w api.Ware) string {
		return digits(w.Section) + "." + digits(w.Cavity) + "." + digits(w.Time)
	})
}

// culprits tells the fewest moulds that explain flaws.
func (d *deed) culprits() string {
	_, first, sure, e := moulds.Culprits(d.shop.Shop, d.run.Machine, d.run.switches, d.sights)
	needOK(e)
	return listed("culprits:", first, d.shown) + listed("; sure:", sure, d.shown)
}
