package forming

import (
	"iter"
	"slices"
	"sync"

	"cullet/api"
)

// rule is what a guard of a kind asks for.
type rule interface {
	// kept tells whether the guard is kept as long as no section goes over to another mode.
	kept() bool
	// keptOver tells whether, if it is kept so, it is also kept in a section that goes over to another mode at a tick.
	keptOver(from, to, tick int) bool
}

// watch is what a guard looks at: the stretches of its mechanisms in each mode, and how close they must not come.
type watch struct {
	cycle int
	slack quotient
	a, b  [][]api.Stretch
}

// within is a guard for two mechanisms of one section.
type within struct{ watch }

// across is a guard for a mechanism of a section and one of the next section.
type across struct {
	watch
	offsets []int
}

func ruleOf(m api.Machine, g api.Guard) rule {
	w := watch{
		cycle: m.Cycle,
		slack: whole(m.Mechs[g.A].Slack + m.Mechs[g.B].Slack),
		a:     inModes(m, g.A, g.PA),
		b:     inModes(m, g.B, g.PB),
	}
	switch g.Kind {
	case api.GuNext:
		return across{w, m.Offsets}
	default:
		return within{w}
	}
}

// inModes returns the stretches of a mechanism for a span, in each mode.
func inModes(m api.Machine, mech int, s api.Span) [][]api.Stretch {
	var all [][]api.Stretch
	for mode := range m.Modes {
		all = append(all, slices.Collect(pathOf(m, mode, mech).stretches(s)))
	}
	return all
}

func pathOf(m api.Machine, mode, mech int) path {
	return path{m.Cycle, m.Mechs[mech].Home, m.Modes[mode].Motions[mech]}
}

func (w within) kept() bool {
	for mode := range w.a {
		if w.reachesAny(distances(w.cycle, w.a[mode], w.b[mode], 0)) {
			return false
		}
	}
	return true
}

func (x across) kept() bool {
	var neighbours [][2]int
	for i := 1; i < len(x.offsets); i++ {
		neighbours = append(neighbours, [2]int{i - 1, i})
	}
	return forEach(neighbours, func(section, next int) bool {
		shift := modulo(x.offsets[next]-x.offsets[section], x.cycle)
		for _, a := range x.a {
			for _, b := range x.b {
				if x.reachesAny(distances(x.cycle, a, b, shift)) {
					return false
				}
			}
		}
		return true
	})
}

// keptOver looks at what is new on the line of all times: one mechanism ahead of the tick, and the other one behind it. The last times ahead of it and the first ones behind it are the closest of these.
func (w within) keptOver(from, to, tick int) bool {
	return !w.reachesAny(over(w.cycle, w.a[from], w.b[to], tick)) && !w.reachesAny(over(w.cycle, w.b[from], w.a[to], tick))
}

// keptOver is true, as kept looks at each mode of a section beside each one of the next.
func (x across) keptOver(from, to, tick int) bool { return true }

// reachesAny tells whether the slack is as great as some distance.
func (w watch) reachesAny(all iter.Seq[quotient]) bool { return some(all, w.slack.covers) }

// some tells whether something holds for one of all items.
func some[T any](all iter.Seq[T], holds func(T) bool) bool {
	for x := range all {
		if holds(x) {
			return true
		}
	}
	return false
}

// over tells how long it is, over a tick, from the last time in each stretch of a to the first time in each stretch of b.
func over(cycle int, a, b []api.Stretch, tick int) iter.Seq[quotient] {
	return func(yield func(quotient) bool) {
		for _, x := range a {
			for _, y := range b {
				if !yield(since(cycle, x, tick).plus(until(cycle, y, tick))) {
					return
				}
			}
		}
	}
}

// since returns how long ago, at a tick, the last time of a stretch was; if it is yet to come in this cycle, that of the cycle before.
func since(cycle int, s api.Stretch, tick int) quotient {
	if !whole(tick).covers(quotient(s.From)) {
		tick += cycle
	}
	return whole(tick).minus(quotient(s.To)).orZero()
}

// until returns how long it is, at a tick, to the first time of a stretch; if it is over in this cycle, to that of the next cycle.
func until(cycle int, s api.Stretch, tick int) quotient {
	if !quotient(s.To).covers(whole(tick)) {
		tick -= cycle
	}
	return quotient(s.From).minus(whole(tick)).orZero()
}

// forEach tells whether something holds for each of some pairs of sections. Each pair is worked on by itself, and writes to a place of its own.
func forEach(pairs [][2]int, holds func(one, other int) bool) bool {
	found := make([]bool, len(pairs))
	var work sync.WaitGroup
	for i, p := range pairs {
		work.Go(func() { found[i] = holds(p[0], p[1]) })
	}
	work.Wait()
	return !slices.Contains(found, false)
}

// rules returns what the guards of a machine that may be ask for, in their order.
func rules(m api.Machine) []rule {
	var all []rule
	for _, g := range m.Guards {
		all = append(all, ruleOf(m, g))
	}
	return all
}

// areSpread tells whether the gobs of different sections are apart as they must be.
func areSpread(m api.Machine) bool {
	var pairs [][2]int
	for other := range m.Offsets {
		for one := range other {
			pairs = append(pairs, [2]int{one, other})
		}
	}
	ticks := gobTicks(m)
	return forEach(pairs, func(one, other int) bool {
		for _, a := range ticks {
			for _, b := range ticks {
				apart := modulo(m.Offsets[other]+b-m.Offsets[one]-a, m.Cycle)
				if min(apart, m.Cycle-apart) < m.Spread {
					return false
				}
			}
		}
		return true
	})
}

// gobTicks returns the ticks at which the modes that take gobs do so.
func gobTicks(m api.Machine) []int {
	var ticks []int
	for _, mode := range m.Modes {
		if mode.Gob != noGob {
			ticks = append(ticks, mode.Gob)
		}
	}
	return ticks
}

func isSafe(m api.Machine, all []rule) bool {
	return areSpread(m) && !slices.ContainsFunc(all, func(r rule) bool { return !r.kept() })
}

// Broken returns the guards that are not kept somewhere.
func Broken(m api.Machine) ([]api.Guard, api.Errno) {
	if e := Check(m); e != api.OK {
		return nil, e
	}
	var broken []api.Guard
	for i, r := range rules(m) {
		if g := m.Guards[i]; !slices.Contains(broken, g) && !r.kept() {
			broken = append(broken, g)
		}
	}
	return broken, api.OK
}

// Safe tells whether a machine keeps all guards, and the gobs of its sections are apart.
func Safe(m api.Machine) (bool, api.Errno) {
	if e := Check(m); e != api.OK {
		return false, e
	}
	return isSafe(m, rules(m)), api.OK
}
