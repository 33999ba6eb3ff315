package batch

import (
	"slices"

	"cullet/api"
)

// prover is what a proof speaks of: lines, prices, and the least and the greatest allowed kilograms of each material.
type prover struct {
	lines               []api.Line
	prices, least, most []int
}

func newProver(b api.Batch) prover {
	most := leasts(b)
	for i, m := range b.Materials {
		most[i] += steps(m) * m.Step
	}
	return prover{lines(b), prices(b), leasts(b), most}
}

// Bound returns what a proof proves: that no allowed recipe that passes costs less than bound, or that there is none.
func Bound(b api.Batch, p api.Proof) (bound int, none bool, e api.Errno) {
	if e := Check(b); e != api.OK {
		return 0, false, e
	}
	v := newProver(b)
	if !between(p.Scale, 0, api.MaxScale) || !allBetween(p.Weights, len(v.lines), 0, api.MaxWeight) {
		return 0, false, api.ErrArg
	}
	m := v.worth(p)
	if p.Scale == 0 {
		return 0, m > 0, api.OK
	}
	return up(m, p.Scale), false, api.OK
}

// sum returns the line that a proof makes of the prices and of all lines, each times its weight.
func (v prover) sum(p api.Proof) api.Line {
	all := plus(api.Line{Factors: make([]int, len(v.prices))}, p.Scale, api.Line{Factors: v.prices})
	for i, l := range v.lines {
		all = plus(all, p.Weights[i], l)
	}
	return all
}

// plus returns a line and so many times another one together.
func plus(l api.Line, n int, other api.Line) api.Line {
	l = api.Line{Factors: slices.Clone(l.Factors), Bound: l.Bound + n*other.Bound}
	for i, f := range other.Factors {
		l.Factors[i] += n * f
	}
	return l
}

// worth returns the least value that an allowed recipe has in a proof.
func (v prover) worth(p api.Proof) int {
	sum := v.sum(p)
	return v.beyond(sum, 0, sum)
}

// beyond returns by how much the allowed recipes go beyond a line and so many times another one together, at least. Each material goes its own way to one of its ends, so it need not be asked how many recipes there are.
func (v prover) beyond(l api.Line, times int, other api.Line) int {
	n := -(l.Bound + times*other.Bound)
	for i, f := range l.Factors {
		f += times * other.Factors[i]
		n += min(f*v.least[i], f*v.most[i])
	}
	return n
}

// Prove returns a proof that there is no recipe, if it finds one; otherwise, of the proofs of bounds that it finds, the first one with the greatest bound.
func Prove(b api.Batch) (api.Proof, api.Errno) {
	if e := Check(b); e != api.OK {
		return api.Proof{}, e
	}
	v := newProver(b)
	best, m := v.climb(0)
	if m > 0 {
		return best, api.OK
	}
	bound := -1 // less than any cost
	for scale := api.MaxScale; scale > 0; scale /= 2 {
		p, m := v.climb(scale)
		if n := up(m, scale); n > bound {
			best, bound = p, n
		}
	}
	return best, api.OK
}

// rounds is how often all pairs of lines are gone through: more of them hardly make a bound greater.
const rounds = 4

// climb returns a proof with this scale, and its worth. It begins without weights, where the worth is that of the recipe of all Leasts, and changes the weights of two lines at a time so that it never becomes less: a single line often proves little, as recipes go around it.
func (v prover) climb(scale int) (api.Proof, int) {
	p := api.Proof{Scale: scale, Weights: make([]int, len(v.lines))}
	m := v.worth(p)
	for range rounds {
		before := m
		for i := range v.lines {
			for j := range i {
				if x, y, n := v.raise(p, i, j); n >= m {
					p.Weights[i], p.Weights[j], m = x, y, n
				}
			}
		}
		if m == before {
			break
		}
	}
	return p, m
}

// raise returns weights of two lines that are good beside those of all others, and what the proof is worth with them.
func (v prover) raise(p api.Proof, i, j int) (x, y, m int) {
	rest := plus(plus(v.sum(p), -p.Weights[i], v.lines[i]), -p.Weights[j], v.lines[j])
	second := func(x int) (int, int) {
		sum := plus(rest, x, v.lines[i])
		return peak(func(y int) int { return v.beyond(sum, y, v.lines[j]) })
	}
	x, m = peak(func(x int) int {
		_, n := second(x)
		return n
	})
	y, _ = second(x)
	return x, y, m
}

// peak returns the weight at which something is greatest that first rises and then falls, and how great it is there. Of several weights it takes the last one: what changes nothing by itself may do so together with other lines.
func peak(of func(weight int) int) (at, m int) {
	low, high := 0, api.MaxWeight
	for low < high {
		middle := (low + high) / 2
		if of(middle+1) >= of(middle) {
			low = middle + 1
		} else {
			high = middle
		}
	}
	return low, of(low)
}
