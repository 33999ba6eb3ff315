package moulds_test

import (
	"math"
	"slices"
	"testing"

	"cullet/api"
	"cullet/moulds"
)

// manyMoulds are so many moulds, the mounts of the first ones changed for none.
func manyMoulds(count int) func(*api.Shop) {
	return func(s *api.Shop) {
		s.Moulds, s.Mounts = nil, nil
		for i := range count {
			s.Moulds = append(s.Moulds, api.Mould{Number: api.MaxNumber - i})
		}
	}
}

// manyMounts are so many mounts of one mould, one behind the other.
func manyMounts(count int) func(*api.Shop) {
	return func(s *api.Shop) {
		s.Mounts = nil
		for i := range count {
			s.Mounts = append(s.Mounts, mount(0, 0, 0, i, i+1))
		}
	}
}

// mounts puts these ones in the place of all mounts.
func mounts(all ...api.Mount) func(*api.Shop) {
	return func(s *api.Shop) { s.Mounts = all }
}

func allowed() map[string]func(*api.Shop) {
	return map[string]func(*api.Shop){
		"nothing changed":       func(s *api.Shop) {},
		"nothing":               func(s *api.Shop) { *s = api.Shop{Cavities: 1} },
		"most cavities":         func(s *api.Shop) { s.Cavities = api.MaxCavities },
		"no delay":              func(s *api.Shop) { s.Low, s.High = 0, 0 },
		"longest delay":         func(s *api.Shop) { s.Low, s.High = api.MaxDelay, api.MaxDelay },
		"no swap":               func(s *api.Shop) { s.Swap = 0 },
		"longest swap":          func(s *api.Shop) { s.Swap = api.MaxDelay },
		"most moulds":           manyMoulds(api.MaxMoulds),
		"numbers":               func(s *api.Shop) { s.Moulds[0].Number, s.Moulds[1].Number = 1, api.MaxNumber },
		"lives":                 func(s *api.Shop) { s.Moulds[0].Life, s.Moulds[1].Life = 0, api.MaxLife },
		"most mounts":           manyMounts(api.MaxMounts),
		"last mould":            mounts(mount(3, 0, 0, 0, 1)),
		"last place":            mounts(mount(0, api.MaxSections-1, 1, 0, 1)),
		"all times":             mounts(mount(0, 0, 0, 0, api.MaxClock)),
		"last time":             mounts(mount(0, 0, 0, api.MaxClock-1, api.MaxClock)),
		"one behind the other":  mounts(mount(0, 0, 0, 5, 9), mount(1, 0, 0, 9, 12), mount(0, 0, 1, 9, 12), mount(0, 0, 0, 12, 13)),
		"at once":               mounts(mount(0, 0, 0, 5, 9), mount(1, 0, 1, 5, 9), mount(2, 1, 0, 5, 9), mount(3, 1, 1, 5, 9)),
		"again":                 mounts(mount(0, 0, 0, 5, 9), mount(0, 0, 0, 9, 12)),
		"the same From, apart":  mounts(mount(0, 0, 0, 5, 9), mount(1, 1, 0, 5, 6)),
		"one within an earlier": mounts(mount(0, 0, 0, 5, 90), mount(1, 1, 0, 6, 7), mount(2, 1, 0, 7, 8)),
	}
}

// spoiled is a change of a shop, and Check's error of it.
type spoiled struct {
	spoil func(*api.Shop)
	e     api.Errno
}

func spoiledMounts() map[string]spoiled {
	return map[string]spoiled{
		"mount of none below":   {mounts(mount(-1, 0, 0, 0, 1)), api.ErrNone},
		"mount of none above":   {mounts(mount(4, 0, 0, 0, 1)), api.ErrNone},
		"mount, section below":  {mounts(mount(0, -1, 0, 0, 1)), api.ErrNone},
		"mount, section above":  {mounts(mount(0, api.MaxSections, 0, 0, 1)), api.ErrNone},
		"mount, cavity below":   {mounts(mount(0, 0, -1, 0, 1)), api.ErrNone},
		"mount, cavity above":   {mounts(mount(0, 0, 2, 0, 1)), api.ErrNone},
		"mount, far off":        {mounts(mount(math.MinInt, math.MaxInt, math.MinInt, 0, 1)), api.ErrNone},
		"From below":            {mounts(mount(0, 0, 0, -1, 1)), api.ErrArg},
		"From above":            {mounts(mount(0, 0, 0, api.MaxClock+1, api.MaxClock+2)), api.ErrArg},
		"From is To":            {mounts(mount(0, 0, 0, 1, 1)), api.ErrArg},
		"From is behind To":     {mounts(mount(0, 0, 0, 2, 1)), api.ErrArg},
		"To above":              {mounts(mount(0, 0, 0, 1, api.MaxClock+1)), api.ErrArg},
		"To far off":            {mounts(mount(0, 0, 0, 1, math.MaxInt)), api.ErrArg},
		"not in order":          {mounts(mount(0, 0, 0, 5, 6), mount(1, 1, 0, 4, 9)), api.ErrState},
		"not in order at last":  {mounts(mount(0, 0, 0, 3, 4), mount(0, 0, 0, 5, 6), mount(1, 1, 0, 4, 9)), api.ErrState},
		"cavity twice":          {mounts(mount(0, 0, 0, 5, 9), mount(1, 0, 0, 8, 12)), api.ErrClash},
		"cavity twice, all":     {mounts(mount(0, 0, 0, 5, 9), mount(1, 0, 0, 5, 9)), api.ErrClash},
		"cavity twice, within":  {mounts(mount(0, 0, 0, 5, 90), mount(1, 1, 0, 6, 7), mount(2, 0, 0, 89, 90)), api.ErrClash},
		"mould twice":           {mounts(mount(0, 0, 0, 5, 9), mount(0, 1, 0, 8, 12)), api.ErrClash},
		"mould twice, cavities": {mounts(mount(0, 0, 0, 5, 9), mount(0, 0, 1, 5, 6)), api.ErrClash},
		"mould twice at last":   {mounts(mount(0, 0, 0, 5, 90), mount(1, 1, 0, 6, 7), mount(0, 1, 0, 89, 99)), api.ErrClash},
		"mount twice":           {mounts(mount(0, 0, 0, 5, 9), mount(0, 0, 0, 5, 9)), api.ErrClash},
	}
}

func spoils() map[string]spoiled {
	all := spoiledMounts()
	for what, x := range map[string]spoiled{
		"no cavities":       {func(s *api.Shop) { s.Cavities = 0 }, api.ErrArg},
		"cavities below":    {func(s *api.Shop) { s.Cavities = math.MinInt }, api.ErrArg},
		"cavities above":    {func(s *api.Shop) { s.Cavities = api.MaxCavities + 1 }, api.ErrArg},
		"Low below":         {func(s *api.Shop) { s.Low = -1 }, api.ErrArg},
		"Low far below":     {func(s *api.Shop) { s.Low = math.MinInt }, api.ErrArg},
		"both below":        {func(s *api.Shop) { s.Low, s.High = -2, -1 }, api.ErrArg},
		"High above":        {func(s *api.Shop) { s.High = api.MaxDelay + 1 }, api.ErrArg},
		"both above":        {func(s *api.Shop) { s.Low, s.High = api.MaxDelay+1, api.MaxDelay+1 }, api.ErrArg},
		"Low above High":    {func(s *api.Shop) { s.Low = s.High + 1 }, api.ErrArg},
		"swap below":        {func(s *api.Shop) { s.Swap = -1 }, api.ErrArg},
		"swap above":        {func(s *api.Shop) { s.Swap = api.MaxDelay + 1 }, api.ErrArg},
		"many moulds":       {manyMoulds(api.MaxMoulds + 1), api.ErrLimit},
		"number 0":          {func(s *api.Shop) { s.Moulds[3].Number = 0 }, api.ErrArg},
		"number below":      {func(s *api.Shop) { s.Moulds[0].Number = math.MinInt }, api.ErrArg},
		"number above":      {func(s *api.Shop) { s.Moulds[3].Number = api.MaxNumber + 1 }, api.ErrArg},
		"life below":        {func(s *api.Shop) { s.Moulds[3].Life = -1 }, api.ErrArg},
		"life above":        {func(s *api.Shop) { s.Moulds[3].Life = api.MaxLife + 1 }, api.ErrArg},
		"number twice":      {func(s *api.Shop) { s.Moulds[3].Number = 11 }, api.ErrTwice},
		"number twice next": {func(s *api.Shop) { s.Moulds[1].Number = 11 }, api.ErrTwice},
		"many mounts":       {manyMounts(api.MaxMounts + 1), api.ErrLimit},
	} {
		all[what] = x
	}
	return all
}

// TestCheck: each thing that may not be, and the limits, which may (P6.1).
func TestCheck(t *testing.T) {
	for what, change := range allowed() {
		s := pressShop()
		change(&s)
		equal(t, what, moulds.Check(s), api.OK)
	}
	for what, x := range spoils() {
		s := pressShop()
		x.spoil(&s)
		equal(t, what, moulds.Check(s), x.e)
	}
	equal(t, "example", moulds.Check(pairShop()), api.OK)
	equal(t, "zero", moulds.Check(api.Shop{}), api.ErrArg)
}

// TestCheckOrder: of several errors the one that stands first in the chapter is returned, moulds and mounts one by one (P6.1, R1).
func TestCheckOrder(t *testing.T) {
	last := func(s *api.Shop) *api.Mount { return &s.Mounts[len(s.Mounts)-1] }
	steps := []spoiled{
		{func(s *api.Shop) { s.Mounts = append(s.Mounts, mount(1, 0, 0, 400, 500)) }, api.ErrClash},
		{func(s *api.Shop) { last(s).From = 299 }, api.ErrState},
		{func(s *api.Shop) { last(s).To = 299 }, api.ErrArg},
		{func(s *api.Shop) { last(s).Cavity = 2 }, api.ErrNone},
		{func(s *api.Shop) { s.Mounts[1].To, s.Mounts[1].Cavity, s.Mounts[1].Section = 20, 0, 0 }, api.ErrArg}, // mount by mount
		{func(s *api.Shop) { s.Mounts = append(s.Mounts, make([]api.Mount, api.MaxMounts)...) }, api.ErrLimit},
		{func(s *api.Shop) { s.Moulds[2].Number = 11 }, api.ErrTwice},
		{func(s *api.Shop) { s.Moulds[2].Life = -1 }, api.ErrArg},
		{func(s *api.Shop) { s.Moulds[1].Number = 11 }, api.ErrTwice}, // mould by mould
		{func(s *api.Shop) { s.Moulds = append(s.Moulds, make([]api.Mould, api.MaxMoulds)...) }, api.ErrLimit},
		{func(s *api.Shop) { s.Swap = -1 }, api.ErrArg},
	}
	s := pressShop()
	for i, x := range steps {
		x.spoil(&s)
		if got := moulds.Check(s); got != x.e {
			t.Errorf("step %d: got %v, want %v", i, got, x.e)
		}
	}
}

// TestCheckFirst: Check's error comes ahead of all others, and all other results are zero then (P6.1, P6.2, P6.3, R2).
func TestCheckFirst(t *testing.T) {
	for what, x := range spoils() {
		c := good()
		x.spoil(&c.s)
		c.m, c.l = api.Machine{}, make([]api.Switch, api.MaxSwitches+1)
		c.section, c.cavity, c.t, c.mould, c.from, c.till = -1, -1, -1, -1, -1, -1
		c.sights = make([]api.Sight, api.MaxSights+1)
		mould, is, e := moulds.Held(c.s, c.section, c.cavity, c.t)
		text, f := moulds.Print(c.s)
		if got := append(c.ofWare(), mould, is, e, text, f); !onlyError(got, x.e) {
			t.Errorf("%s: got %v", what, got)
		}
	}
}

func TestHeld(t *testing.T) {
	for _, x := range []struct {
		section, cavity, t, mould int
		is                        bool
	}{
		{0, 0, 0, 0, false}, {0, 0, 19, 0, false}, {0, 0, 20, 0, true}, {0, 0, 289, 0, true}, {0, 0, 290, 0, false}, {0, 0, 299, 0, false}, {0, 0, 300, 0, true}, {0, 0, 559, 0, true}, {0, 0, 560, 0, false},
		{0, 1, 59, 0, false}, {0, 1, 60, 2, true}, {0, 1, 300, 2, true}, {0, 1, 519, 2, true}, {0, 1, 520, 0, false}, {1, 0, 30, 1, true}, {1, 0, 240, 0, false}, {1, 0, 300, 0, false}, {1, 1, 299, 0, false},
		{1, 1, 300, 1, true}, {1, 1, api.MaxClock, 0, false}, {2, 0, 100, 0, false}, {api.MaxSections - 1, 1, 100, 0, false},
	} {
		mould, is, e := moulds.Held(pressShop(), x.section, x.cavity, x.t)
		if mould != x.mould || is != x.is || e != api.OK {
			t.Errorf("%v: got %v, %v, %v", x, mould, is, e)
		}
	}
	all := pressShop()
	all.Mounts = []api.Mount{mount(3, 7, 1, 0, api.MaxClock)}
	for at, want := range map[int]bool{0: true, 500: true, api.MaxClock - 1: true, api.MaxClock: false} {
		mould, is, e := moulds.Held(all, 7, 1, at)
		if is != want || e != api.OK || (mould == 3) != want {
			t.Error(at, mould, is, e)
		}
	}
}

func TestHeldErrors(t *testing.T) {
	inOrder(t, "Held", []wrong{
		{api.ErrLimit, func(c *call) { c.s.Mounts = make([]api.Mount, api.MaxMounts+1) }},
		{api.ErrNone, func(c *call) { c.section = -1 }},
		{api.ErrNone, func(c *call) { c.section = api.MaxSections }},
		{api.ErrNone, func(c *call) { c.section = math.MaxInt }},
		{api.ErrNone, func(c *call) { c.cavity = -1 }},
		{api.ErrNone, func(c *call) { c.cavity = 2 }},
		{api.ErrNone, func(c *call) { c.cavity = math.MinInt }},
		{api.ErrArg, func(c *call) { c.t = -1 }},
		{api.ErrArg, func(c *call) { c.t = api.MaxClock + 1 }},
		{api.ErrArg, func(c *call) { c.t = math.MaxInt }},
	}, func(c call) []any {
		mould, is, e := moulds.Held(c.s, c.section, c.cavity, c.t)
		return []any{mould, is, e}
	})
}

// TestOnePlace: in a shop that may be, a cavity holds at most one mould at any time, and a mould is in at most one cavity; any other shop clashes (P6.4). Held tells what the mounts say (P6.1).
func TestOnePlace(t *testing.T) {
	r := newRand(61)
	clashes := 0
	for range 600 {
		m := someMachine(r)
		s := someShop(r, m)
		equal(t, "one place", moulds.Check(s), api.OK)
		for at := range lasts {
			places := map[int]int{}
			for section := range len(m.Offsets) {
				for cavity := range s.Cavities {
					mould, is, e := moulds.Held(s, section, cavity, at)
					holds := func(x api.Mount) bool {
						return x.Section == section && x.Cavity == cavity && x.From <= at && at < x.To
					}
					i := slices.IndexFunc(s.Mounts, holds)
					if e != api.OK || is != (i >= 0) || is && mould != s.Mounts[i].Mould {
						t.Fatal(s, section, cavity, at, mould, is, e)
					}
					if is {
						places[mould]++
					}
				}
			}
			for mould, count := range places {
				if count > 1 {
					t.Fatal("a mould in two cavities", s, mould, at)
				}
			}
		}
		if len(s.Mounts) == 0 {
			continue
		}
		last := s.Mounts[len(s.Mounts)-1].From
		x := mount(r.Intn(len(s.Moulds)), r.Intn(len(m.Offsets)), r.Intn(s.Cavities), last, last+1+r.Intn(9))
		want := api.OK
		if !canMount(s.Mounts, x) {
			want = api.ErrClash
			clashes++
		}
		s.Mounts = append(s.Mounts, x)
		equal(t, "one more", moulds.Check(s), want)
	}
	if clashes < 100 {
		t.Fatal("too few clashes", clashes)
	}
}
