package moulds_test

import (
	"math/rand"
	"slices"
	"testing"

	"cullet/api"
	"cullet/moulds"
)

// row is a machine that takes gobs at 0, 10, 20 and so on, once each 1000 ticks in each of its sections; the section i has the mould in[i]. Bottles are inspected 0 to 10 ticks behind their gobs.
func row(in ...int) call {
	c := call{m: api.Machine{Cycle: 1000, Modes: []api.Mode{{Name: "run"}}}, s: api.Shop{Cavities: 1, High: 10}}
	for i, mould := range in {
		c.m.Offsets = append(c.m.Offsets, 10*i)
		c.s.Moulds = append(c.s.Moulds, api.Mould{Number: 100 + i})
		c.s.Mounts = append(c.s.Mounts, mount(mould, i, 0, 0, api.MaxClock))
	}
	return c
}

func checkCulprits(t *testing.T, what string, c call, fewest int, first, sure []int) {
	t.Helper()
	gotFewest, gotFirst, gotSure, e := moulds.Culprits(c.s, c.m, c.l, c.sights)
	if gotFewest != fewest || !slices.Equal(gotFirst, first) || !slices.Equal(gotSure, sure) || e != api.OK {
		t.Errorf("%s: got %v, %v, %v, error %v; want %v, %v, %v", what, gotFewest, gotFirst, gotSure, e, fewest, first, sure)
	}
}

func TestCulprits(t *testing.T) {
	checkCulprits(t, "example", call{s: pairShop(), m: pair(), sights: times(260, 310)}, 2, []int{0, 1}, []int{0, 1})
	checkCulprits(t, "no sights", call{s: pairShop(), m: pair()}, 0, nil, nil)
	checkCulprits(t, "no sights, nothing", call{s: api.Shop{Cavities: 1}, m: api.Machine{Cycle: 1}}, 0, nil, nil)
	far := call{s: pairShop(), m: pair()}
	far.s.High = api.MaxDelay
	checkCulprits(t, "no sights, long delay", far, 0, nil, nil)
	// a sight at 10 i may be the ware of the sections i - 1 and i
	for what, x := range map[string]struct {
		in          []int
		sights      []api.Sight
		first, sure []int
	}{
		"one":                       {[]int{2, 0, 3, 1}, times(0), []int{2}, []int{2}},
		"one, two moulds":           {[]int{2, 0, 3, 1}, times(10), []int{0}, nil},
		"one, seen twice":           {[]int{2, 0, 3, 1}, times(10, 10, 10), []int{0}, nil},
		"one, a cycle later":        {[]int{2, 0, 3, 1}, times(10, 1010, 9010), []int{0}, nil},
		"all over the cycle":        {[]int{2, 0, 3, 1}, times(0, 1000, 5005), []int{2}, []int{2}},
		"one for two":               {[]int{2, 0, 3, 1}, times(10, 20), []int{0}, []int{0}},
		"two for two":               {[]int{2, 0, 3, 1}, times(10, 30), []int{0, 1}, nil},
		"two for three":             {[]int{2, 0, 3, 1}, times(10, 20, 30), []int{0, 1}, nil},
		"two, both sure":            {[]int{2, 0, 3, 1}, times(0, 20, 30), []int{2, 3}, []int{2, 3}},
		"two, one of them sure":     {[]int{2, 0, 3, 1}, times(0, 10, 30), []int{1, 2}, []int{2}},
		"least list, not least end": {[]int{5, 0, 1, 2, 3, 4}, times(10, 50, 20), []int{0, 3}, []int{0}},
		"least by its first mould":  {[]int{1, 0, 4, 3, 2, 5}, times(10, 20, 30, 40), []int{0, 3}, []int{0, 3}},
		"of the last sight":         {[]int{3, 1, 0, 2}, times(30, 20, 10), []int{0, 1}, nil},
		"number":                    {[]int{2, 0, 3, 1}, []api.Sight{{Time: 10, Number: 102}, {Time: 20}}, []int{0, 2}, []int{2}},
		"number that is one of two": {[]int{2, 0, 3, 1}, []api.Sight{{Time: 20, Number: 100}, {Time: 10}}, []int{0}, []int{0}},
	} {
		c := row(x.in...)
		c.sights = x.sights
		checkCulprits(t, what, c, len(x.first), x.first, x.sure)
	}
}

func TestCulpritsErrors(t *testing.T) {
	errors := append(wrongWorks(),
		wrong{api.ErrLimit, func(c *call) { c.sights = make([]api.Sight, api.MaxSights+1) }},
		wrong{api.ErrArg, func(c *call) { c.sights[0] = api.Sight{Time: -1} }})
	errors = append(errors, wrongSights()...)
	errors = append(errors,
		wrong{api.ErrNone, func(c *call) { c.sights[0] = api.Sight{Time: 10} }},
		wrong{api.ErrNone, func(c *call) { c.sights[0] = api.Sight{Time: 105, Number: 11} }},
		wrong{api.ErrNone, func(c *call) { c.sights[0] = api.Sight{Time: 105, Number: 1} }},
		wrong{api.ErrNone, func(c *call) { c.sights[2] = api.Sight{Time: 460} }}, // all that it may be is rejected
	)
	inOrder(t, "Culprits", errors, call.culprits)
	c := good()
	c.s.High = c.s.Low + 10001
	equal(t, "long delay", onlyError(c.culprits(), api.ErrScope), true)
	c.sights[1].Time = -1
	equal(t, "long delay, sight by sight", onlyError(c.culprits(), api.ErrScope), true)
	c.sights[0].Time = -1
	equal(t, "long delay, first sight", onlyError(c.culprits(), api.ErrArg), true)
	c.s.High, c.sights = c.s.Low+10000, times(90)
	equal(t, "longest delay", c.culprits()[3], api.OK)
}

// TestCulpritsMany: explanations have at most 6 moulds (P6.3).
func TestCulpritsMany(t *testing.T) {
	c := row(15, 14, 13, 12, 11, 10, 9, 8, 7, 6, 5, 4, 3, 2, 1, 0)
	c.s.High = 0
	c.sights = times(0, 10, 20, 30, 40, 50, 0, 50)
	six := []int{10, 11, 12, 13, 14, 15}
	checkCulprits(t, "six", c, 6, six, six)
	c.sights = append(c.sights, api.Sight{Time: 60})
	equal(t, "seven", onlyError(c.culprits(), api.ErrScope), true)
	c.sights = append(c.sights, api.Sight{Time: 65})
	equal(t, "no source comes first", onlyError(c.culprits(), api.ErrNone), true)
	c.s.High = 10
	c.sights = times(10, 30, 50, 70, 90, 110)
	checkCulprits(t, "six of two each", c, 6, []int{4, 6, 8, 10, 12, 14}, nil)
	c.sights = append(c.sights, api.Sight{Time: 130})
	equal(t, "seven of two each", onlyError(c.culprits(), api.ErrScope), true)
	c.sights = times(10, 20, 30, 40, 50, 60, 70, 80, 90, 100, 110)
	checkCulprits(t, "each for two sights", c, 6, []int{4, 6, 8, 10, 12, 14}, nil)
	c.sights = times(20, 30, 40, 50, 60, 70, 80, 90, 100, 110, 120, 130)
	checkCulprits(t, "in one way", c, 6, []int{3, 5, 7, 9, 11, 13}, []int{3, 5, 7, 9, 11, 13})
}

// TestCulpritsMost: as many moulds, mounts and sights as there may be (P6.3).
func TestCulpritsMost(t *testing.T) {
	m := api.Machine{Cycle: 160, Modes: []api.Mode{{Name: "run"}}}
	s := api.Shop{Cavities: api.MaxCavities, High: 20}
	for i := range api.MaxMoulds {
		s.Moulds = append(s.Moulds, api.Mould{Number: i + 1})
	}
	for section := range api.MaxSections {
		m.Offsets = append(m.Offsets, 10*section)
	}
	for _, from := range []int{0, 1000} {
		for i := range api.MaxMoulds {
			s.Mounts = append(s.Mounts, mount(i, i/4, i%4, from, from+1000))
		}
	}
	c := call{m: m, s: s}
	for i := range api.MaxSights {
		c.sights = append(c.sights, api.Sight{Time: 200 + 30*i})
	}
	// a sight may come from three sections, one behind the other; each three of the 16 sections are those of some sight
	checkCulprits(t, "all", c, 6, []int{0, 4, 16, 28, 40, 52}, nil)
	c.s.High = 10
	equal(t, "eight would do", onlyError(c.culprits(), api.ErrScope), true)
}

// explanations are all sets of moulds that explain the sights of a call, as the chapter says it.
func (c call) explanations() [][]int {
	var all [][]int
	ware := c.made(0, 2*lasts)
	for set := range 1 << len(c.s.Moulds) {
		isIn := func(mould int) bool { return set>>mould&1 == 1 }
		isLeft := func(x api.Sight) bool {
			return !slices.ContainsFunc(ware, func(y api.Ware) bool { return isIn(y.Mould) && c.mayBe(x, y) })
		}
		if slices.ContainsFunc(c.sights, isLeft) {
			continue
		}
		var moulds []int
		for mould := range c.s.Moulds {
			if isIn(mould) {
				moulds = append(moulds, mould)
			}
		}
		all = append(all, moulds)
	}
	return all
}

// smallest are the explanations with the fewest moulds, in ascending order of their lists.
func smallest(all [][]int) [][]int {
	fewest := len(slices.MinFunc(all, func(a, b []int) int { return len(a) - len(b) }))
	all = slices.DeleteFunc(all, func(x []int) bool { return len(x) > fewest })
	slices.SortFunc(all, slices.Compare[[]int])
	return all
}

// someSights are sights of some kept bottles, if there are any, and sometimes one of nothing.
func (c call) someSights(r *rand.Rand) []api.Sight {
	kept := slices.DeleteFunc(c.made(0, lasts), func(x api.Ware) bool { return !x.Kept })
	if len(kept) == 0 || r.Intn(20) == 0 {
		return times(r.Intn(lasts))
	}
	var sights []api.Sight
	for range 1 + r.Intn(9) {
		x := kept[r.Intn(len(kept))]
		delay := c.s.Low + r.Intn(c.s.High-c.s.Low+1)
		sights = append(sights, api.Sight{Time: x.Time + delay, Number: r.Intn(2) * r.Intn(2) * c.s.Moulds[x.Mould].Number})
	}
	return sights
}

// TestCulpritsAlike: Culprits says the same as the chapter of all sets of moulds (P6.3).
func TestCulpritsAlike(t *testing.T) {
	r := newRand(64)
	kinds := map[int]int{}
	unsure := 0
	for range 2000 {
		c := someCall(r)
		c.s.High = c.s.Low + r.Intn(4)
		c.sights = c.someSights(r)
		all := c.explanations()
		if len(all) == 0 {
			equal(t, "no source", onlyError(c.culprits(), api.ErrNone), true)
			kinds[-1]++
			continue
		}
		all = smallest(all)
		if len(all[0]) > 6 {
			equal(t, "no explanation", onlyError(c.culprits(), api.ErrScope), true)
			continue
		}
		sure := slices.Clone(all[0])
		for _, x := range all {
			sure = slices.DeleteFunc(sure, func(mould int) bool { return !slices.Contains(x, mould) })
		}
		checkCulprits(t, "culprits", c, len(all[0]), all[0], sure)
		kinds[len(all[0])]++
		if len(sure) < len(all[0]) {
			unsure++
		}
	}
	if kinds[-1] < 100 || kinds[1] < 100 || kinds[2] < 100 || kinds[3] < 20 || unsure < 100 {
		t.Fatal("the sights are not of all kinds", kinds, unsure)
	}
}
