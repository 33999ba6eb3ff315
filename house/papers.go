package house

import (
	"slices"

	"cullet/api"
	"cullet/batch"
	"cullet/forming"
	"cullet/inspect"
)

// Verify reports whether a paper is good.
func Verify(p api.Paper) api.Errno {
	isGood := false
	switch p.Kind {
	case api.PaBest:
		isGood = isBest(p)
	case api.PaSafe:
		safe, e := forming.Safe(p.Machine)
		isGood = e == api.OK && safe
	case api.PaRelease:
		lots, e := inspect.Release(p.Checker, p.Runs, p.Shop, p.Machine, p.Switches, p.Holds)
		isGood = e == api.OK && slices.Equal(lots, p.Lots)
	case api.PaClaim:
		isGood = bookError(p.Book) == api.OK
	default:
		return api.ErrArg
	}
	if !isGood {
		return api.ErrState
	}
	return api.OK
}

// isBest tells whether the recipe of a paper is allowed and passes, and its proof allows that it costs so much.
func isBest(p api.Paper) bool {
	for _, is := range []func(api.Batch, []int) (bool, api.Errno){batch.Allowed, batch.Passes} {
		if yes, e := is(p.Batch, p.Recipe); e != api.OK || !yes {
			return false
		}
	}
	bound, none, e := batch.Bound(p.Batch, p.Proof)
	if e != api.OK || none {
		return false
	}
	cost, e := batch.Cost(p.Batch, p.Recipe)
	return e == api.OK && bound <= cost
}

// copies returns a new list of copies.
func copies[T any](list []T, of func(T) T) []T {
	var all []T
	for _, x := range list {
		all = append(all, of(x))
	}
	return all
}

// paperCopy returns a paper that shares no memory with another one.
func paperCopy(p api.Paper) api.Paper {
	p.Batch = batchCopy(p.Batch)
	p.Recipe = slices.Clone(p.Recipe)
	p.Proof.Weights = slices.Clone(p.Proof.Weights)
	p.Machine = machineCopy(p.Machine)
	p.Switches = slices.Clone(p.Switches)
	p.Checker = checkerCopy(p.Checker)
	p.Runs = slices.Clone(p.Runs)
	p.Shop.Moulds, p.Shop.Mounts = slices.Clone(p.Shop.Moulds), slices.Clone(p.Shop.Mounts)
	p.Holds = slices.Clone(p.Holds)
	p.Lots = slices.Clone(p.Lots)
	p.Book = bookCopy(p.Book)
	return p
}

func batchCopy(b api.Batch) api.Batch {
	b.Oxides = slices.Clone(b.Oxides)
	b.Materials = copies(b.Materials, func(m api.Material) api.Material {
		m.Content = slices.Clone(m.Content)
		return m
	})
	b.Shares = slices.Clone(b.Shares)
	b.Properties = copies(b.Properties, func(p api.Property) api.Property {
		p.Coefs = slices.Clone(p.Coefs)
		return p
	})
	return b
}

func machineCopy(m api.Machine) api.Machine {
	m.Offsets, m.Mechs = slices.Clone(m.Offsets), slices.Clone(m.Mechs)
	m.Modes = copies(m.Modes, func(x api.Mode) api.Mode {
		x.Motions = copies(x.Motions, slices.Clone[[]api.Knot])
		return x
	})
	m.Guards = slices.Clone(m.Guards)
	return m
}

func checkerCopy(c api.Checker) api.Checker {
	c.Flaws = slices.Clone(c.Flaws)
	c.Stands = copies(c.Stands, func(s api.Stand) api.Stand {
		s.Claims = slices.Clone(s.Claims)
		return s
	})
	return c
}

func bookCopy(b api.Book) api.Book {
	b.Posts = slices.Clone(b.Posts)
	return b
}
