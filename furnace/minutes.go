package furnace

import (
	"iter"
	"slices"
	"sync"

	"cullet/api"
)

// net is a furnace that may be, with its streams by where they go to.
type net struct {
	furnace api.Furnace
	into    map[int][]api.Stream
}

func newNet(f api.Furnace) net {
	into := map[int][]api.Stream{}
	for _, s := range f.Streams {
		into[s.To] = append(into[s.To], s)
	}
	return net{f, into}
}

// minute is a minute of a plan: its phase, and the states before and behind it.
type minute struct {
	phase          api.Phase
	before, behind []api.Span
}

// beyond is what a state goes wrong with that leaves its bounds.
type beyond struct{}

// minutes tells the minutes of a plan one by one. It goes wrong at the first one behind which a value may be too great or too small.
func (n net) minutes(state []api.Span, plan []api.Phase) iter.Seq[minute] {
	return func(yield func(minute) bool) {
		before := state
		for _, p := range plan {
			for range p.Minutes {
				behind := n.next(before, p)
				if !allMayBe(behind) {
					panic(beyond{})
				}
				if !yield(minute{p, before, behind}) {
					return
				}
				before = behind
			}
		}
	}
}

// follow does something at each minute of a plan. It returns ErrLimit if a state leaves its bounds.
func (n net) follow(state []api.Span, plan []api.Phase, do func(minute)) (e api.Errno) {
	defer func() {
		if recover() != nil {
			e = api.ErrLimit
		}
	}()
	for m := range n.minutes(state, plan) {
		do(m)
	}
	return api.OK
}

// next returns the state behind a minute. Each zone is stepped on its own: all of them look at the state before, and none at what becomes of another one.
func (n net) next(state []api.Span, p api.Phase) []api.Span {
	behind := make([]api.Span, len(state))
	var zones sync.WaitGroup
	for i := range behind {
		zones.Go(func() { behind[i] = n.zone(i, state, p) })
	}
	zones.Wait()
	return behind
}

// zone returns what becomes of a zone in a minute.
func (n net) zone(i int, state []api.Span, p api.Phase) api.Span {
	parts := n.parts(i, p.Mode, p.Charge, state)
	rest := n.furnace.Zones[i].Hold // what stays; of the rest as much goes as comes
	for _, come := range parts {
		rest -= come.kilos
	}
	s := stir(append(parts, part{rest, state[i]}))
	if len(p.Gains) > 0 {
		s.Low += p.Gains[i].Low
		s.High += p.Gains[i].High
	}
	return s
}

// parts returns what flows to a zone, or outside, in a minute.
func (n net) parts(to, mode int, charge api.Span, state []api.Span) []part {
	var parts []part
	for _, s := range n.into[to] {
		value := charge
		if s.From != outside {
			value = state[s.From]
		}
		parts = append(parts, part{s.Rates[mode], value})
	}
	return parts
}

// pulled returns the span of the pulled value of a minute that begins with a state. Something is pulled in this mode.
func (n net) pulled(mode int, state []api.Span) api.Span {
	return stir(n.parts(outside, mode, api.Span{}, state)) // what is charged is not pulled in the same minute
}

func pull(f api.Furnace, mode int) int {
	in, _ := flows(f, outside, mode)
	return in
}

// Pull returns how many kilograms are pulled in a minute of a mode.
func Pull(f api.Furnace, mode int) (int, api.Errno) {
	if e := checkMode(f, mode); e != api.OK {
		return 0, e
	}
	return pull(f, mode), api.OK
}

// Out returns the pulled value of a minute that begins with a state.
func Out(f api.Furnace, mode int, state []api.Span) (api.Span, api.Errno) {
	if e := checkMode(f, mode); e != api.OK {
		return api.Span{}, e
	}
	if e := checkState(f, state); e != api.OK {
		return api.Span{}, e
	}
	if pull(f, mode) == 0 {
		return api.Span{}, api.ErrState
	}
	return newNet(f).pulled(mode, state), api.OK
}

// Run returns the state behind all minutes of a plan.
func Run(f api.Furnace, state []api.Span, plan []api.Phase) ([]api.Span, api.Errno) {
	if e := checkAll(f, state, plan); e != api.OK {
		return nil, e
	}
	last := slices.Clone(state)
	if e := newNet(f).follow(state, plan, func(m minute) { last = m.behind }); e != api.OK {
		return nil, e
	}
	return last, api.OK
}

// Outs returns the pulled value of each minute of a plan.
func Outs(f api.Furnace, state []api.Span, plan []api.Phase) ([]api.Span, api.Errno) {
	if e := checkAll(f, state, plan); e != api.OK {
		return nil, e
	}
	return outs(f, state, plan)
}

// outs returns Outs of what has no error that comes before ErrState.
func outs(f api.Furnace, state []api.Span, plan []api.Phase) ([]api.Span, api.Errno) {
	for _, p := range plan {
		if p.Minutes > 0 && pull(f, p.Mode) == 0 {
			return nil, api.ErrState
		}
	}
	n := newNet(f)
	var all []api.Span
	e := n.follow(state, plan, func(m minute) { all = append(all, n.pulled(m.phase.Mode, m.before)) })
	if e != api.OK {
		return nil, e
	}
	return all, api.OK
}

// First returns the first minute whose pulled value may lie in the target, and the first one from which on it surely does, to the end of the plan; -1 if there is none.
func First(f api.Furnace, state []api.Span, plan []api.Phase, target api.Span) (may, must int, e api.Errno) {
	if e := checkAll(f, state, plan); e != api.OK {
		return 0, 0, e
	}
	if !mayBe(target) {
		return 0, 0, api.ErrArg
	}
	all, e := outs(f, state, plan)
	if e != api.OK {
		return 0, 0, e
	}
	may = slices.IndexFunc(all, func(s api.Span) bool { return s.Low <= target.High && target.Low <= s.High })
	must = len(all)
	for must > 0 && within(all[must-1], target.Low, target.High) {
		must--
	}
	if must == len(all) {
		must = -1
	}
	return may, must, api.OK
}

// Spectrum returns how many millionths of what is charged in the first minute are pulled in each minute.
func Spectrum(f api.Furnace, mode, minutes int) ([]api.Span, api.Errno) {
	if e := checkTime(f, mode, minutes); e != api.OK {
		return nil, e
	}
	if pull(f, mode) == 0 {
		return nil, api.ErrState
	}
	if minutes == 0 {
		return nil, api.OK
	}
	const all = 1000000
	plan := []api.Phase{
		{Mode: mode, Minutes: 1, Charge: api.Span{Low: all, High: all}},
		{Mode: mode, Minutes: minutes - 1},
	}
	return outs(f, make([]api.Span, len(f.Zones)), plan)
}
