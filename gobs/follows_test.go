package gobs_test

import (
	"math/rand"
	"testing"

	"cullet/api"
	"cullet/gobs"
)

// walk is gobs that come one behind the other from one of a set, and how all but the last one were read.
func walk(r *rand.Rand, l api.Loop, from map[gob]bool, count int) (all []gob, readings []int) {
	first := cellsOf(from)
	c := first[r.Intn(len(first))]
	s := c.Weights[r.Intn(len(c.Weights))]
	g := gob{c.Phase, c.Tube, s.Low + r.Intn(s.High-s.Low+1)}
	all = append(all, g)
	for range count {
		reading := g.weight - l.Error + r.Intn(2*l.Error+1)
		var next []gob
		behind(l, g, reading, func(n gob) { next = append(next, n) })
		g = next[r.Intn(len(next))]
		all = append(all, g)
		readings = append(readings, reading)
	}
	return all, readings
}

// more adds gobs to a set.
func more(r *rand.Rand, l api.Loop, all map[gob]bool) map[gob]bool {
	more := someGobs(r, l)
	for g := range all {
		more[g] = true
	}
	more[someGob(r, l)] = true
	return more
}

func within(small, great []api.Cell) bool {
	all := gobsOf(great)
	for g := range gobsOf(small) {
		if !all[g] {
			return false
		}
	}
	return true
}

// TestWalks: whatever comes belongs to what Reach tells, and to what Seen tells of how it was read, which belongs to that of Reach (P3.8).
func TestWalks(t *testing.T) {
	r := rand.New(rand.NewSource(71))
	for range 300 {
		l := someLoop(r)
		from := more(r, l, nil)
		first := cellsOf(from)
		all, readings := walk(r, l, from, 12)
		for n, g := range all {
			reach, e := gobs.Reach(l, first, n)
			equal(t, "Reach", e, api.OK)
			seen, e := gobs.Seen(l, first, readings[:n])
			equal(t, "Seen", e, api.OK)
			equal(t, "it is reached", gobsOf(reach)[g], true)
			equal(t, "it is seen", gobsOf(seen)[g], true)
			equal(t, "what is seen is reached", within(seen, reach), true)
		}
	}
}

// TestNextComesOfSome: each weight of Next comes of some weight of the set alone (P3.8).
func TestNextComesOfSome(t *testing.T) {
	r := rand.New(rand.NewSource(72))
	for range 300 {
		l := someLoop(r)
		from := someGobs(r, l)
		next, e := gobs.Next(l, cellsOf(from))
		equal(t, "Next", e, api.OK)
		comes := map[gob]bool{}
		for g := range from {
			alone, e := gobs.Next(l, cellsOf(map[gob]bool{g: true}))
			equal(t, "Next of one", e, api.OK)
			for n := range gobsOf(alone) {
				comes[n] = true
			}
		}
		same(t, "all of them", next, cellsOf(comes))
	}
}

// TestMore: more of a set comes of more (P3.8).
func TestMore(t *testing.T) {
	r := rand.New(rand.NewSource(73))
	for range 300 {
		l := someLoop(r)
		from := someGobs(r, l)
		small, great := cellsOf(from), cellsOf(more(r, l, from))
		n := r.Intn(6)
		few, _ := gobs.Reach(l, small, n)
		many, _ := gobs.Reach(l, great, n)
		equal(t, "Reach", within(few, many), true)
		readings := []int{someGob(r, l).weight, someGob(r, l).weight}[:r.Intn(3)]
		few, e := gobs.Seen(l, small, readings)
		if e == api.OK {
			many, e = gobs.Seen(l, great, readings)
			equal(t, "Seen", e, api.OK)
			equal(t, "Seen", within(few, many), true)
		}
		limits := span(5, 60)
		many, at, e := gobs.Ever(l, great, limits)
		equal(t, "Ever", e, api.OK)
		few, then, e := gobs.Ever(l, small, limits)
		equal(t, "Ever", e, api.OK)
		equal(t, "Ever", then == -1 && within(few, many) || at >= 0 && (then == -1 || then >= at), true)
	}
}

// TestEverProves: what Ever tells proves it, and nothing does that leaves something of it out (P3.8).
func TestEverProves(t *testing.T) {
	r := rand.New(rand.NewSource(74))
	limits := span(5, 60)
	proofs := 0
	for range 300 {
		l := kept(r)
		first := cellsOf(someGobs(r, l))
		all, at, e := gobs.Ever(l, first, limits)
		equal(t, "Ever", e, api.OK)
		if at >= 0 {
			checkLeast(t, l, first, limits, at)
			continue
		}
		ok, e := gobs.Proves(l, first, limits, all)
		equal(t, "Proves", e, api.OK)
		equal(t, "Proves", ok, true)
		for g := range gobsOf(all) {
			if r.Intn(4) > 0 {
				continue
			}
			less := gobsOf(all)
			delete(less, g)
			ok, e := gobs.Proves(l, first, limits, cellsOf(less))
			equal(t, "less", e, api.OK)
			equal(t, "less", ok, false)
			proofs++
		}
	}
	equal(t, "proofs", proofs > 500, true)
}

// checkLeast: Reach has a weight outside of limits behind so many gobs, and behind no fewer.
func checkLeast(t *testing.T, l api.Loop, first []api.Cell, limits api.Span, at int) {
	t.Helper()
	for n := range at + 1 {
		reach, e := gobs.Reach(l, first, n)
		equal(t, "Reach", e, api.OK)
		hull, ok := gobs.Hull(reach)
		equal(t, "Hull", ok, true)
		equal(t, "outside", hull.Low < limits.Low || hull.High > limits.High, n == at)
	}
}
