package forming_test

import (
	"math"
	"strconv"
	"strings"
	"testing"

	"cullet/api"
	"cullet/forming"
)

// spoiled is a change of press, and Check's error of it.
type spoiled struct {
	spoil func(*api.Machine)
	e     api.Errno
}

// many returns so many items, each made of its number.
func many[T any](count int, of func(i int) T) []T {
	var all []T
	for i := range count {
		all = append(all, of(i))
	}
	return all
}

func manyMechs(count int) func(*api.Machine) {
	return func(m *api.Machine) {
		m.Mechs = many(count, func(i int) api.Mech { return api.Mech{Name: "m" + strconv.Itoa(i)} })
		m.Modes = []api.Mode{{Name: "run", Motions: make([][]api.Knot, count)}}
	}
}

func manyModes(count int) func(*api.Machine) {
	return func(m *api.Machine) {
		m.Modes = many(count, func(i int) api.Mode {
			return api.Mode{Name: "m" + strconv.Itoa(i), Motions: make([][]api.Knot, 2), Gob: -1}
		})
	}
}

func manyGuards(count int) func(*api.Machine) {
	return func(m *api.Machine) {
		m.Guards = many(count, func(int) api.Guard { return api.Guard{Kind: api.GuSame, PA: span(1, 0)} })
	}
}

func motion(of ...int) func(*api.Machine) {
	return func(m *api.Machine) { m.Modes[0].Motions[1] = knots(of...) }
}

func allows() map[string]func(*api.Machine) {
	return map[string]func(*api.Machine){
		"nothing changed":   func(m *api.Machine) {},
		"nothing":           func(m *api.Machine) { *m = api.Machine{Cycle: 1} },
		"longest cycle":     func(m *api.Machine) { m.Cycle = api.MaxCycle },
		"most sections":     func(m *api.Machine) { m.Offsets = make([]int, api.MaxSections) },
		"last offset":       func(m *api.Machine) { m.Offsets[0] = 99 },
		"greatest spread":   func(m *api.Machine) { m.Spread = 100 },
		"no spread":         func(m *api.Machine) { m.Spread = 0 },
		"most mechanisms":   manyMechs(api.MaxMechs),
		"longest name":      func(m *api.Machine) { m.Mechs[0].Name = strings.Repeat("z", api.MaxName) },
		"home":              func(m *api.Machine) { m.Mechs[0].Home = api.MaxPlace },
		"slack":             func(m *api.Machine) { m.Mechs[0].Slack = 25 },
		"slack, rounded":    func(m *api.Machine) { m.Cycle, m.Mechs[0].Slack = 103, 25 },
		"most":              func(m *api.Machine) { m.Mechs[0].Most = api.MaxPlace },
		"most modes":        manyModes(api.MaxModes),
		"as fast as most":   motion(0, 0, 5, 100, 10, 0, 15, 100),
		"as fast at home":   motion(0, 0, 95, 100),
		"last gob":          func(m *api.Machine) { m.Modes[0].Gob = 99 },
		"reject":            func(m *api.Machine) { m.Modes[0].Reject = api.MaxCycle },
		"named alike":       func(m *api.Machine) { m.Modes[0].Name = "arm" },
		"most guards":       manyGuards(api.MaxGuards),
		"guard of one":      func(m *api.Machine) { m.Guards[0].A = 1 },
		"places of a guard": func(m *api.Machine) { m.Guards[0].PA = span(0, api.MaxPlace); m.Guards[0].PB = span(api.MaxPlace, 0) },
	}
}

func spoils() map[string]spoiled {
	return map[string]spoiled{
		"no cycle":         {func(m *api.Machine) { m.Cycle = 0 }, api.ErrArg},
		"cycle below":      {func(m *api.Machine) { m.Cycle = math.MinInt }, api.ErrArg},
		"cycle above":      {func(m *api.Machine) { m.Cycle = api.MaxCycle + 1 }, api.ErrArg},
		"many sections":    {func(m *api.Machine) { m.Offsets = make([]int, api.MaxSections+1) }, api.ErrLimit},
		"offset below":     {func(m *api.Machine) { m.Offsets[1] = -1 }, api.ErrArg},
		"offset above":     {func(m *api.Machine) { m.Offsets[1] = 100 }, api.ErrArg},
		"spread below":     {func(m *api.Machine) { m.Spread = -1 }, api.ErrArg},
		"spread above":     {func(m *api.Machine) { m.Spread = 101 }, api.ErrArg},
		"many mechanisms":  {manyMechs(api.MaxMechs + 1), api.ErrLimit},
		"no name":          {func(m *api.Machine) { m.Mechs[1].Name = "" }, api.ErrName},
		"bad name":         {func(m *api.Machine) { m.Mechs[1].Name = "a_b" }, api.ErrName},
		"digit first":      {func(m *api.Machine) { m.Mechs[1].Name = "1a" }, api.ErrName},
		"long name":        {func(m *api.Machine) { m.Mechs[1].Name = strings.Repeat("z", api.MaxName+1) }, api.ErrName},
		"name twice":       {func(m *api.Machine) { m.Mechs[1].Name = "plunger" }, api.ErrTwice},
		"home below":       {func(m *api.Machine) { m.Mechs[1].Home = -1 }, api.ErrArg},
		"home above":       {func(m *api.Machine) { m.Mechs[1].Home = api.MaxPlace + 1 }, api.ErrArg},
		"slack below":      {func(m *api.Machine) { m.Mechs[1].Slack = -1 }, api.ErrArg},
		"slack above":      {func(m *api.Machine) { m.Mechs[1].Slack = 26 }, api.ErrArg},
		"slack, rounded":   {func(m *api.Machine) { m.Cycle, m.Mechs[1].Slack = 103, 26 }, api.ErrArg},
		"slack, short":     {func(m *api.Machine) { *m = api.Machine{Cycle: 3, Mechs: []api.Mech{{Name: "a", Slack: 1}}} }, api.ErrArg},
		"most below":       {func(m *api.Machine) { m.Mechs[1].Most = -1 }, api.ErrArg},
		"most above":       {func(m *api.Machine) { m.Mechs[1].Most = api.MaxPlace + 1 }, api.ErrArg},
		"many modes":       {manyModes(api.MaxModes + 1), api.ErrLimit},
		"no mode's name":   {func(m *api.Machine) { m.Modes[1].Name = "" }, api.ErrName},
		"bad mode's name":  {func(m *api.Machine) { m.Modes[1].Name = "Rest" }, api.ErrName},
		"mode twice":       {func(m *api.Machine) { m.Modes[2].Name = "run" }, api.ErrTwice},
		"few motions":      {func(m *api.Machine) { m.Modes[1].Motions = m.Modes[1].Motions[:1] }, api.ErrArg},
		"no motions":       {func(m *api.Machine) { m.Modes[1].Motions = nil }, api.ErrArg},
		"many motions":     {func(m *api.Machine) { m.Modes[1].Motions = make([][]api.Knot, 3) }, api.ErrArg},
		"many knots":       {func(m *api.Machine) { m.Modes[0].Motions[1] = make([]api.Knot, api.MaxKnots+1) }, api.ErrLimit},
		"late knot":        {motion(1, 0), api.ErrArg},
		"knot at 100":      {motion(0, 0, 100, 0), api.ErrArg},
		"place above":      {motion(0, api.MaxPlace+1), api.ErrArg},
		"too fast":         {motion(0, 0, 5, 101, 50, 0), api.ErrScope},
		"too fast back":    {motion(0, 101, 5, 0), api.ErrScope},
		"too fast at last": {motion(0, 0, 96, 100), api.ErrScope},
		"cannot move":      {func(m *api.Machine) { m.Mechs[1].Most = 0 }, api.ErrScope},
		"gob below":        {func(m *api.Machine) { m.Modes[0].Gob = -2 }, api.ErrArg},
		"gob above":        {func(m *api.Machine) { m.Modes[0].Gob = 100 }, api.ErrArg},
		"reject below":     {func(m *api.Machine) { m.Modes[0].Reject = -1 }, api.ErrArg},
		"reject above":     {func(m *api.Machine) { m.Modes[0].Reject = api.MaxCycle + 1 }, api.ErrArg},
		"many guards":      {manyGuards(api.MaxGuards + 1), api.ErrLimit},
		"guard of none":    {func(m *api.Machine) { m.Guards[1].Kind = api.GuNone }, api.ErrArg},
		"guard of what":    {func(m *api.Machine) { m.Guards[1].Kind = api.GuNext + 1 }, api.ErrArg},
		"guard of 255":     {func(m *api.Machine) { m.Guards[1].Kind = 255 }, api.ErrArg},
		"guard A below":    {func(m *api.Machine) { m.Guards[1].A = -1 }, api.ErrNone},
		"guard A above":    {func(m *api.Machine) { m.Guards[1].A = 2 }, api.ErrNone},
		"guard B below":    {func(m *api.Machine) { m.Guards[1].B = math.MinInt }, api.ErrNone},
		"guard B above":    {func(m *api.Machine) { m.Guards[1].B = 2 }, api.ErrNone},
		"low A below":      {func(m *api.Machine) { m.Guards[1].PA.Low = -1 }, api.ErrArg},
		"high A above":     {func(m *api.Machine) { m.Guards[1].PA.High = api.MaxPlace + 1 }, api.ErrArg},
		"high A below":     {func(m *api.Machine) { m.Guards[1].PA.High = -1 }, api.ErrArg},
		"low A above":      {func(m *api.Machine) { m.Guards[1].PA.Low = api.MaxPlace + 1 }, api.ErrArg},
		"low B below":      {func(m *api.Machine) { m.Guards[1].PB.Low = -1 }, api.ErrArg},
		"high B above":     {func(m *api.Machine) { m.Guards[1].PB.High = api.MaxPlace + 1 }, api.ErrArg},
	}
}

func TestCheck(t *testing.T) {
	for what, spoil := range allows() {
		m := press()
		spoil(&m)
		equal(t, what, forming.Check(m), api.OK)
	}
	for what, x := range spoils() {
		m := press()
		x.spoil(&m)
		equal(t, what, forming.Check(m), x.e)
	}
	equal(t, "zero", forming.Check(api.Machine{}), api.ErrArg)
}

// TestCheckOrder: of several errors the one that stands first in the chapter is returned (P4.2, R1).
func TestCheckOrder(t *testing.T) {
	steps := []spoiled{
		{func(m *api.Machine) { m.Guards[0].PB.High = -1 }, api.ErrArg},
		{func(m *api.Machine) { m.Guards[0].A = 9 }, api.ErrNone},
		{func(m *api.Machine) { m.Guards[0].Kind = 0 }, api.ErrArg},
		{func(m *api.Machine) { m.Guards = append(m.Guards, make([]api.Guard, api.MaxGuards)...) }, api.ErrLimit},
		{func(m *api.Machine) { m.Modes[2].Gob = 100 }, api.ErrArg},
		{func(m *api.Machine) { m.Modes[2].Motions[1] = knots(0, 0, 1, 100) }, api.ErrScope},
		{func(m *api.Machine) { m.Modes[2].Motions[0] = knots(1, 0) }, api.ErrArg},
		{func(m *api.Machine) { m.Modes[2].Motions[0] = make([]api.Knot, 99) }, api.ErrLimit},
		{func(m *api.Machine) { m.Modes[2].Motions = m.Modes[2].Motions[:1] }, api.ErrArg},
		{func(m *api.Machine) { m.Modes[2].Name = "rest" }, api.ErrTwice},
		{func(m *api.Machine) { m.Modes[2].Name = "" }, api.ErrName},
		{func(m *api.Machine) { m.Modes[1].Reject = -1 }, api.ErrArg}, // mode by mode
		{func(m *api.Machine) { m.Modes = append(m.Modes, make([]api.Mode, api.MaxModes)...) }, api.ErrLimit},
		{func(m *api.Machine) { m.Mechs[1].Home = -1 }, api.ErrArg},
		{func(m *api.Machine) { m.Mechs[1].Name = m.Mechs[0].Name }, api.ErrTwice},
		{func(m *api.Machine) { m.Mechs[1].Name = "?" }, api.ErrName},
		{func(m *api.Machine) { m.Mechs[0].Slack = -1 }, api.ErrArg}, // mechanism by mechanism
		{func(m *api.Machine) { m.Mechs = append(m.Mechs, make([]api.Mech, api.MaxMechs)...) }, api.ErrLimit},
		{func(m *api.Machine) { m.Spread = -1 }, api.ErrArg},
		{func(m *api.Machine) { m.Offsets = make([]int, 17) }, api.ErrLimit},
		{func(m *api.Machine) { m.Cycle = 0 }, api.ErrArg},
	}
	m := press()
	for i, x := range steps {
		x.spoil(&m)
		equal(t, "step "+strconv.Itoa(i), forming.Check(m), x.e)
	}
	// a mechanism that is too fast in a mode decides ahead of the next mechanism's motion
	m = press()
	m.Modes[0].Motions = [][]api.Knot{knots(0, 0, 1, 100), knots(1, 0)}
	equal(t, "motion by motion", forming.Check(m), api.ErrScope)
}

// TestCheckFirst: Check's error comes ahead of all others, and all other results are zero then (P4.2, P4.3, R2).
func TestCheckFirst(t *testing.T) {
	for what, x := range spoils() {
		c := good()
		x.spoil(&c.m)
		c.from, c.to, c.tick = -1, 99, -1
		c.section, c.mode, c.mech, c.at, c.tm, c.since = -1, -1, -1, ratio(0, 0), -1, -1
		c.l = make([]api.Switch, api.MaxSwitches+1)
		text, e := forming.Print(c.m)
		broken, f := forming.Broken(c.m)
		safe, g := forming.Safe(c.m)
		at, h := forming.Drive(c.m, c.l)
		results := append(c.ofSwitches(), text, e, broken, f, safe, g, at, h)
		if !onlyError(results, x.e) {
			t.Errorf("%s: got %v", what, results)
		}
	}
}
