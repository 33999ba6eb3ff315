package furnace

import (
	"slices"

	"cullet/api"
)

// Worn returns how much a lining loses in all minutes of a plan together.
func Worn(f api.Furnace, state []api.Span, plan []api.Phase, zone int, table []api.WearRow) (api.Span, api.Errno) {
	if e := checkWear(f, state, plan, zone, table); e != api.OK {
		return api.Span{}, e
	}
	all, e := worn(f, state, plan, zone, table)
	if e != api.OK || len(all) == 0 {
		return api.Span{}, e
	}
	return all[len(all)-1], api.OK
}

// Through returns the first minute at whose end a lining of this thickness may be worn through, and the first one at whose end it surely is; -1 if there is none.
func Through(f api.Furnace, state []api.Span, plan []api.Phase, zone int, table []api.WearRow, thick int) (may, must int, e api.Errno) {
	if e := checkWear(f, state, plan, zone, table); e != api.OK {
		return 0, 0, e
	}
	if !between(thick, 1, api.MaxState) {
		return 0, 0, api.ErrArg
	}
	all, e := worn(f, state, plan, zone, table)
	if e != api.OK {
		return 0, 0, e
	}
	may = slices.IndexFunc(all, func(s api.Span) bool { return s.High >= thick })
	must = slices.IndexFunc(all, func(s api.Span) bool { return s.Low >= thick })
	return may, must, api.OK
}

// worn returns how much a lining has lost at the end of each minute.
func worn(f api.Furnace, state []api.Span, plan []api.Phase, zone int, table []api.WearRow) ([]api.Span, api.Errno) {
	var all []api.Span
	var lost api.Span
	e := newNet(f).follow(state, plan, func(m minute) {
		lost.Low += rate(table, m.before[zone].Low)
		lost.High += rate(table, m.before[zone].High)
		all = append(all, lost)
	})
	return all, e
}

// rate returns what a lining loses in a minute at this value. Rates never become less along the table, so those of the ends of a span are the least and the greatest ones of it.
func rate(table []api.WearRow, value int) int {
	n := 0
	for _, row := range table {
		if row.From <= value {
			n = row.Rate
		}
	}
	return n
}

// checkWear returns the error of a furnace, a state and a plan, then that of the zone, then that of the table.
func checkWear(f api.Furnace, state []api.Span, plan []api.Phase, zone int, table []api.WearRow) api.Errno {
	if e := checkAll(f, state, plan); e != api.OK {
		return e
	}
	if !isZone(f, zone) {
		return api.ErrNone
	}
	return checkTable(table)
}

func checkTable(table []api.WearRow) api.Errno {
	if len(table) > api.MaxWears {
		return api.ErrLimit
	}
	from, least := -api.MaxState, 0
	for _, row := range table {
		if !between(row.From, from, api.MaxState) || !between(row.Rate, least, api.MaxPower) {
			return api.ErrArg
		}
		from, least = row.From+1, row.Rate
	}
	return api.OK
}
