package moulds_test

import (
	"math/rand"
	"slices"
	"testing"

	"cullet/api"
	"cullet/moulds"
)

// windows are those of the ware that a mould makes up to a time.
func (c call) windows(t *testing.T, mould, to int) []api.Span {
	t.Helper()
	all, e := moulds.Windows(c.s, c.m, c.l, mould, 0, to)
	equal(t, "error", e, api.OK)
	for i, x := range all {
		if x.Low > x.High || i > 0 && x.Low <= all[i-1].High+1 {
			t.Fatal("not increasing, or not as few as can be", all)
		}
	}
	return all
}

// shortLook is a call at whose times all ware may be looked at together.
func shortLook(r *rand.Rand) call {
	for {
		if c := someCall(r); 2*lasts <= api.MaxLook*c.m.Cycle {
			return c
		}
	}
}

// TestTraced: whatever delay a kept bottle has, it is among the sources of its sight, and it is inspected in the windows of its mould; nothing else is (P6.5, P0.2).
func TestTraced(t *testing.T) {
	r := newRand(65)
	bottles := 0
	for range 250 {
		c := shortLook(r)
		made, e := moulds.Made(c.s, c.m, c.l, 0, lasts)
		equal(t, "error", e, api.OK)
		seen := make([]map[int]bool, len(c.s.Moulds))
		for i := range seen {
			seen[i] = map[int]bool{}
		}
		for _, x := range made {
			if !x.Kept {
				continue
			}
			bottles++
			windows := c.windows(t, x.Mould, lasts)
			for at := x.Time + c.s.Low; at <= x.Time+c.s.High; at++ {
				seen[x.Mould][at] = true
				inWindow := func(w api.Span) bool { return w.Low <= at && at <= w.High }
				equal(t, "in a window", slices.ContainsFunc(windows, inWindow), true)
				for _, number := range []int{0, c.s.Moulds[x.Mould].Number} {
					sources, e := moulds.Sources(c.s, c.m, c.l, api.Sight{Time: at, Number: number})
					fine(t, "among the sources", slices.Contains(sources, x), e, true)
				}
			}
		}
		for mould := range c.s.Moulds {
			for _, w := range c.windows(t, mould, lasts) {
				for at := w.Low; at <= w.High; at++ {
					equal(t, "time of a window that is that of a bottle", seen[mould][at], true)
				}
			}
		}
		for at := range 2 * lasts {
			sources, e := moulds.Sources(c.s, c.m, c.l, api.Sight{Time: at})
			equal(t, "error", e, api.OK)
			for _, x := range sources {
				delay := at - x.Time
				if !x.Kept || delay < c.s.Low || delay > c.s.High || x.Time <= lasts && !slices.Contains(made, x) {
					t.Fatal("a source that cannot be", c, at, x)
				}
			}
		}
	}
	if bottles < 1000 {
		t.Fatal("too few bottles", bottles)
	}
}

// TestCounted: each bottle is made of one gob in one cavity; what is made in two spans of time is what is made in both together, and counts are sums (P6.6).
func TestCounted(t *testing.T) {
	r := newRand(66)
	for range 400 {
		c := shortLook(r)
		middle, to := r.Intn(lasts), 2*lasts
		all, e := moulds.Made(c.s, c.m, c.l, 0, to)
		one, f := moulds.Made(c.s, c.m, c.l, 0, middle)
		other, g := moulds.Made(c.s, c.m, c.l, middle+1, to)
		if e != api.OK || f != api.OK || g != api.OK {
			t.Fatal(e, f, g)
		}
		list(t, "both", slices.Concat(one, other), e, all)
		type spot struct{ section, cavity, time int }
		spots := map[spot]bool{}
		for _, x := range all {
			spots[spot{x.Section, x.Cavity, x.Time}] = true
			isGob := func(g api.Gob) bool { return g.Section == x.Section && g.Kept == x.Kept }
			equal(t, "of a gob", slices.ContainsFunc(c.gobsAt(x.Time), isGob), true)
			held, is, e := moulds.Held(c.s, x.Section, x.Cavity, x.Time)
			fine(t, "of the mould in its cavity", held == x.Mould && is, e, true)
		}
		equal(t, "bottles of one gob in one cavity", len(spots), len(all))
		sum := 0
		for mould := range c.s.Moulds {
			count, e := moulds.Count(c.s, c.m, c.l, mould, 0, to)
			first, f := moulds.Count(c.s, c.m, c.l, mould, 0, middle)
			second, g := moulds.Count(c.s, c.m, c.l, mould, middle+1, to)
			if count != first+second || e != api.OK || f != api.OK || g != api.OK {
				t.Fatal(count, first, second)
			}
			sum += count
		}
		equal(t, "sum", sum, len(all))
	}
}

// TestWornOn: a mould that is worn stays so, and it is worn just if its count is as great as its life (P6.2, P6.6).
func TestWornOn(t *testing.T) {
	r := newRand(67)
	for range 100 {
		c := shortLook(r)
		var before []int
		for to := range lasts {
			worn, e := moulds.Worn(c.s, c.m, c.l, to)
			equal(t, "error", e, api.OK)
			for mould, x := range c.s.Moulds {
				count, e := moulds.Count(c.s, c.m, c.l, mould, 0, to)
				fine(t, "worn", slices.Contains(worn, mould), e, count >= x.Life)
				if slices.Contains(before, mould) && !slices.Contains(worn, mould) {
					t.Fatal("worn no longer", c, mould, to)
				}
			}
			before = worn
		}
	}
}

// TestExplained: if all flaws come from some moulds, the smallest explanation has not more; a mould that is sure is one of them, if they are as few (P6.7).
func TestExplained(t *testing.T) {
	r := newRand(68)
	asFew, sures := 0, 0
	for range 2000 {
		c := someCall(r)
		c.s.High = c.s.Low + r.Intn(3)
		c.sights = nil
		var guilty []int
		for _, x := range c.made(0, lasts) {
			isNew := !slices.Contains(guilty, x.Mould)
			if !x.Kept || len(c.sights) >= 8 || isNew && len(guilty) > 3 || r.Intn(3) > 0 {
				continue
			}
			if isNew {
				guilty = append(guilty, x.Mould)
			}
			delay := c.s.Low + r.Intn(c.s.High-c.s.Low+1)
			c.sights = append(c.sights, api.Sight{Time: x.Time + delay, Number: r.Intn(2) * c.s.Moulds[x.Mould].Number})
		}
		fewest, first, sure, e := moulds.Culprits(c.s, c.m, c.l, c.sights)
		if e != api.OK || fewest > len(guilty) || len(first) != fewest || !slices.IsSorted(first) || !slices.IsSorted(sure) {
			t.Fatal(c, guilty, fewest, first, sure, e)
		}
		for _, x := range sure {
			equal(t, "sure in the first explanation", slices.Contains(first, x), true)
			if fewest == len(guilty) {
				equal(t, "sure and guilty", slices.Contains(guilty, x), true)
				sures++
			}
		}
		if fewest == len(guilty) && fewest > 0 {
			asFew++
		}
	}
	if asFew < 300 || sures < 300 {
		t.Fatal("too few explanations", asFew, sures)
	}
}
