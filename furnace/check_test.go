package furnace_test

import (
	"math"
	"strings"
	"testing"

	"cullet/api"
	"cullet/furnace"
)

// wrongs are furnaces that may not be; each change makes just the one error with which it stands.
var wrongs = []struct {
	name   string
	change func(f *api.Furnace)
	want   api.Errno
}{
	{"too many zones", func(f *api.Furnace) { f.Zones = make([]api.Zone, api.MaxZones+1) }, api.ErrLimit},
	{"no zone", func(f *api.Furnace) { f.Zones = []api.Zone{} }, api.ErrArg},
	{"a zone without a name", func(f *api.Furnace) { f.Zones[1].Name = "" }, api.ErrName},
	{"a zone with a long name", func(f *api.Furnace) { f.Zones[1].Name = strings.Repeat("a", api.MaxName+1) }, api.ErrName},
	{"a zone that begins with a digit", func(f *api.Furnace) { f.Zones[1].Name = "1a" }, api.ErrName},
	{"a zone that begins with -", func(f *api.Furnace) { f.Zones[1].Name = "-" }, api.ErrName},
	{"a zone with a great letter", func(f *api.Furnace) { f.Zones[0].Name = "mElt" }, api.ErrName},
	{"a zone with other bytes", func(f *api.Furnace) { f.Zones[0].Name = "m\xc3\xa4" }, api.ErrName},
	{"a zone twice", func(f *api.Furnace) { f.Zones[1].Name = "melt" }, api.ErrTwice},
	{"a zone that holds nothing", func(f *api.Furnace) { f.Zones[0].Hold = 0 }, api.ErrArg},
	{"a zone that holds too much", func(f *api.Furnace) { f.Zones[0].Hold = api.MaxHold + 1 }, api.ErrArg},
	{"the least number", func(f *api.Furnace) { f.Zones[0].Hold = math.MinInt }, api.ErrArg},
	{"too many modes", func(f *api.Furnace) { f.Modes = make([]string, api.MaxFires+1) }, api.ErrLimit},
	{"no mode", func(f *api.Furnace) { f.Modes = nil }, api.ErrArg},
	{"a mode without a name", func(f *api.Furnace) { f.Modes[0] = "" }, api.ErrName},
	{"a mode with a blank", func(f *api.Furnace) { f.Modes[2] = "a b" }, api.ErrName},
	{"a mode twice", func(f *api.Furnace) { f.Modes[2] = "day" }, api.ErrTwice},
	{"too many streams", func(f *api.Furnace) { f.Streams = make([]api.Stream, api.MaxStreams+1) }, api.ErrLimit},
	{"a stream from nowhere", func(f *api.Furnace) { f.Streams[1].From = -2 }, api.ErrNone},
	{"a stream from behind all zones", func(f *api.Furnace) { f.Streams[1].From = 2 }, api.ErrNone},
	{"a stream to nowhere", func(f *api.Furnace) { f.Streams[1].To = math.MinInt }, api.ErrNone},
	{"a stream to behind all zones", func(f *api.Furnace) { f.Streams[1].To = 2 }, api.ErrNone},
	{"a stream from a zone to itself", func(f *api.Furnace) { f.Streams[1].From = 1 }, api.ErrArg},
	{"a stream from outside to outside", func(f *api.Furnace) { f.Streams[0].To = -1 }, api.ErrArg},
	{"too few rates", func(f *api.Furnace) { f.Streams[0].Rates = []int{10, 0} }, api.ErrArg},
	{"too many rates", func(f *api.Furnace) { f.Streams[0].Rates = append(f.Streams[0].Rates, 0) }, api.ErrArg},
	{"a rate below 0", func(f *api.Furnace) { f.Streams[0].Rates[1] = -1 }, api.ErrArg},
	{"a rate above its limit", func(f *api.Furnace) { f.Streams[0].Rates[1] = api.MaxHold + 1 }, api.ErrArg},
	{"more comes than goes", func(f *api.Furnace) { f.Streams[0].Rates[2]++ }, api.ErrSum},
	{"more goes than comes", func(f *api.Furnace) { f.Streams[3].Rates[0]++ }, api.ErrSum},
	{"something comes where nothing flows", func(f *api.Furnace) { f.Streams = f.Streams[:1] }, api.ErrSum},
	{"more flows than a zone holds", func(f *api.Furnace) { f.Zones[1].Hold = 49 }, api.ErrScope},
}

func TestCheckErrors(t *testing.T) {
	for _, x := range wrongs {
		f := full()
		x.change(&f)
		equal(t, x.name, furnace.Check(f), x.want)
	}
}

// TestWrongFurnace: every function that takes a furnace returns Check's error before any other one, and nothing else.
func TestWrongFurnace(t *testing.T) {
	for _, x := range wrongs {
		c := call{mode: -1, minutes: -1, zone: -1, plan: make([]api.Phase, api.MaxPhases+1)}
		c.f = full()
		x.change(&c.f)
		if got := c.ofFurnace(); !onlyError(got, x.want) {
			t.Errorf("%s: %v", x.name, got)
		}
	}
}

func TestCheckOrder(t *testing.T) {
	for _, x := range []struct {
		name   string
		change func(f *api.Furnace)
		want   api.Errno
	}{
		{"zones before modes", func(f *api.Furnace) { f.Zones[1].Hold = 0; f.Modes = nil; f.Streams[0].From = 9 }, api.ErrArg},
		{"the first zone decides", func(f *api.Furnace) { f.Zones[0].Hold = 0; f.Zones[1].Name = "" }, api.ErrArg},
		{"a zone's name before one that stands twice", func(f *api.Furnace) { f.Zones[0].Name, f.Zones[1].Name = "", "" }, api.ErrName},
		{"twice before what a zone holds", func(f *api.Furnace) { f.Zones[1] = api.Zone{Name: "melt"} }, api.ErrTwice},
		{"modes before streams", func(f *api.Furnace) { f.Modes[1] = "day"; f.Streams = make([]api.Stream, 25) }, api.ErrTwice},
		{"the first mode decides", func(f *api.Furnace) { f.Modes[1], f.Modes[2] = "day", "" }, api.ErrTwice},
		{"the first stream decides", func(f *api.Furnace) { f.Streams[0].Rates = nil; f.Streams[1].To = 7 }, api.ErrArg},
		{"places before what a stream carries", func(f *api.Furnace) { f.Streams[2] = api.Stream{From: 5, To: 5} }, api.ErrNone},
		{"streams before sums", func(f *api.Furnace) { f.Streams[0].Rates[0] = 11; f.Streams[3].Rates[2] = -1 }, api.ErrArg},
		{"the first mode's sums", func(f *api.Furnace) { f.Streams[3].Rates[2]++; f.Zones[0].Hold = 19 }, api.ErrScope},
		{"the first zone's sums", func(f *api.Furnace) { f.Streams[3].Rates[0]++; f.Zones[0].Hold = 19 }, api.ErrScope},
		{"sums before what a zone holds", func(f *api.Furnace) { f.Streams[0].Rates[0]++; f.Zones[0].Hold = 1 }, api.ErrSum},
	} {
		f := full()
		x.change(&f)
		equal(t, x.name, furnace.Check(f), x.want)
	}
}

func TestCheckLimits(t *testing.T) {
	var f api.Furnace
	for i := range api.MaxZones {
		f.Zones = append(f.Zones, api.Zone{Name: strings.Repeat("a", api.MaxName-i), Hold: api.MaxHold})
	}
	for i := range api.MaxFires {
		f.Modes = append(f.Modes, "z-09"+strings.Repeat("9", i))
	}
	for i := range api.MaxStreams {
		rates := make([]int, api.MaxFires)
		if i < 2 {
			rates[i] = api.MaxHold
			rates[5] = api.MaxHold / 2
		}
		f.Streams = append(f.Streams, api.Stream{From: i%2 - 1, To: -(i % 2), Rates: rates})
	}
	f.Streams[0].Rates[1], f.Streams[1].Rates[0] = api.MaxHold, api.MaxHold
	equal(t, "all at its limit", furnace.Check(f), api.OK)
	f = api.Furnace{Zones: []api.Zone{{Name: "z", Hold: 1}}, Modes: []string{"z"}}
	equal(t, "all as little as may be", furnace.Check(f), api.OK)
	equal(t, "the chapter's", furnace.Check(two()), api.OK)
	equal(t, "three modes", furnace.Check(full()), api.OK)
	f = two()
	f.Zones[0].Hold, f.Zones[1].Hold = 20, 20
	equal(t, "all flows", furnace.Check(f), api.OK)
}

// TestPull tells the pull of each mode.
func TestPull(t *testing.T) {
	for mode, want := range []int{10, 0, 50} {
		got, e := furnace.Pull(full(), mode)
		equal(t, "error", e, api.OK)
		equal(t, "pull", got, want)
	}
	f := two()
	f.Streams = append(f.Streams, api.Stream{From: 0, To: -1, Rates: []int{7}}, api.Stream{From: -1, To: 0, Rates: []int{7}})
	got, e := furnace.Pull(f, 0)
	equal(t, "error", e, api.OK)
	equal(t, "pull of two streams", got, 17)
}

// TestModeErrors: all that take a mode return ErrNone behind Check's error and before their other ones.
func TestModeErrors(t *testing.T) {
	for _, mode := range []int{-1, 3, math.MaxInt, math.MinInt} {
		pull, e := furnace.Pull(full(), mode)
		out, g := furnace.Out(full(), mode, nil)
		spectrum, h := furnace.Spectrum(full(), mode, -1)
		charges, i := furnace.Charges(full(), mode, -1, api.Batch{}, nil)
		may, must, j := furnace.Change(full(), mode, -1, api.Batch{}, nil, nil, -1, span(1, 0))
		if all := []any{pull, e, out, g, spectrum, h, charges, i, may, must, j}; !onlyError(all, api.ErrNone) {
			t.Error(mode, all)
		}
	}
}

// TestTimeErrors: all that take minutes return ErrArg behind the mode's error and before their other ones.
func TestTimeErrors(t *testing.T) {
	for _, minutes := range []int{-1, api.MaxMinutes + 1, math.MaxInt, math.MinInt} {
		spectrum, e := furnace.Spectrum(full(), 1, minutes)
		charges, g := furnace.Charges(full(), 1, minutes, api.Batch{Oxides: make([]string, 99)}, nil)
		may, must, h := furnace.Change(full(), 1, minutes, api.Batch{Oxides: make([]string, 99)}, nil, nil, -1, span(1, 0))
		if all := []any{spectrum, e, charges, g, may, must, h}; !onlyError(all, api.ErrArg) {
			t.Error(minutes, all)
		}
	}
}

// wrongStates are such as may not be for a furnace of two zones.
func wrongStates() [][]api.Span {
	const most = api.MaxState
	return [][]api.Span{
		nil, spans(1), spans(1, 2, 3), {just(0), span(1, 0)}, {span(-most-1, 0), just(0)}, {just(0), span(0, most+1)},
		{span(math.MinInt, math.MaxInt), just(0)}, {span(math.MaxInt, math.MinInt), just(0)},
	}
}

// TestStateErrors: all that take a state return ErrArg behind Check's error (and the mode's), and before their other ones.
func TestStateErrors(t *testing.T) {
	for _, state := range wrongStates() {
		c := call{f: full(), state: state, plan: make([]api.Phase, api.MaxPhases+1), zone: -1}
		if got := c.ofPlan(); !onlyError(got, api.ErrArg) {
			t.Error(state, got)
		}
		if out, e := furnace.Out(full(), 1, state); !onlyError([]any{out, e}, api.ErrArg) {
			t.Error(state, out, e)
		}
	}
}

// wrongPlans are such as may not be for full; each one has just the error with which it stands.
func wrongPlans() []struct {
	plan []api.Phase
	want api.Errno
} {
	const most = api.MaxState
	all := just(0)
	return []struct {
		plan []api.Phase
		want api.Errno
	}{
		{make([]api.Phase, api.MaxPhases+1), api.ErrLimit},
		{[]api.Phase{phase(-1, 1, all)}, api.ErrNone},
		{[]api.Phase{phase(0, 1, all), phase(3, 1, all)}, api.ErrNone},
		{[]api.Phase{phase(math.MinInt, 1, all)}, api.ErrNone},
		{[]api.Phase{phase(0, -1, all)}, api.ErrArg},
		{[]api.Phase{phase(0, api.MaxMinutes+1, all)}, api.ErrArg},
		{[]api.Phase{phase(0, math.MaxInt, all)}, api.ErrArg},
		{[]api.Phase{phase(0, 0, span(1, 0))}, api.ErrArg},
		{[]api.Phase{phase(0, 0, span(-most-1, 0))}, api.ErrArg},
		{[]api.Phase{phase(0, 0, span(0, most+1))}, api.ErrArg},
		{[]api.Phase{phase(0, 0, all, all)}, api.ErrArg},
		{[]api.Phase{phase(0, 0, all, all, all, all)}, api.ErrArg},
		{[]api.Phase{phase(0, 0, all, all, span(1, 0))}, api.ErrArg},
		{[]api.Phase{phase(0, 0, all, span(-most-1, 0), all)}, api.ErrArg},
		{[]api.Phase{phase(0, 0, all, all, span(0, most+1))}, api.ErrArg},
		{[]api.Phase{phase(0, api.MaxMinutes, all), phase(1, 1, all)}, api.ErrLimit},
		// of several errors: the first phase decides, the mode first; all minutes together come last
		{[]api.Phase{phase(0, -1, all), phase(9, 1, all)}, api.ErrArg},
		{[]api.Phase{phase(9, -1, all)}, api.ErrNone},
		{[]api.Phase{phase(0, api.MaxMinutes, all), phase(0, 1, all), phase(9, 0, all)}, api.ErrNone},
		{[]api.Phase{phase(0, api.MaxMinutes, all), phase(0, 1, all), phase(0, 0, span(1, 0))}, api.ErrArg},
		{append(make([]api.Phase, api.MaxPhases), phase(9, 0, all)), api.ErrLimit},
	}
}

// TestPlanErrors: all that take a plan return its error behind the state's and before their other ones; the values of the state would leave their bounds.
func TestPlanErrors(t *testing.T) {
	for i, x := range wrongPlans() {
		plan := append([]api.Phase{}, x.plan...)
		c := call{f: full(), state: spans(api.MaxState, api.MaxState), plan: plan, zone: -1, target: span(1, 0)}
		if got := c.ofPlan(); !onlyError(got, x.want) {
			t.Error(i, x.plan, got)
		}
	}
}

func TestPlanLimits(t *testing.T) {
	plan := make([]api.Phase, api.MaxPhases)
	for i := range plan {
		plan[i] = phase(0, api.MaxMinutes/api.MaxPhases, just(-3), []api.Span{}...)
	}
	outs, e := furnace.Outs(full(), spans(-3, -3), plan)
	equal(t, "error", e, api.OK)
	equal(t, "minutes", len(outs), api.MaxMinutes)
	last, e := furnace.Run(full(), spans(-3, -3), []api.Phase{phase(0, api.MaxMinutes, just(-3))})
	equal(t, "error", e, api.OK)
	same(t, "state", last, spans(-3, -3))
	const most = api.MaxState
	widest := span(-most, most)
	last, e = furnace.Run(full(), []api.Span{widest, widest}, []api.Phase{phase(2, 2, widest, just(0), just(0)), phase(1, 0, just(0), widest, widest)})
	equal(t, "error", e, api.OK)
	same(t, "state", last, []api.Span{widest, widest})
}
