package plan

import (
	"math"
	"slices"

	"cullet/api"
)

// way is a way to give a furnace shifts on the first days: what changes and machines without articles cost, and how many bottles each order gets.
type way struct {
	cost int
	got  counts
}

// net returns what a way costs, less the prices of the bottles that orders get.
func (x way) net(prices []int) int {
	n := x.cost
	for i, price := range prices {
		n -= price * x.got[i]
	}
	return n
}

// first returns the first one of the ways to some shifts that cost least, net.
func first(shifts []crew, to func(crew) way, prices []int) way {
	best := to(shifts[0])
	for _, shift := range shifts[1:] {
		if x := to(shift); x.net(prices) < best.net(prices) {
			best = x
		}
	}
	return best
}

// cheapest returns the way that costs least, net, of all ways to give a furnace a shift that may be on each day. What comes behind a day asks only for the shift of that day, so that of all ways to it one is enough.
func (w works) cheapest(o oven, prices []int) way {
	start := w.crew(o, nil, -1)
	lasts, ways := []crew{start}, map[crew]way{start: {}}
	for day := range w.Days {
		next := make(map[crew]way, len(o.shifts))
		for _, shift := range o.shifts {
			next[shift] = first(lasts, func(last crew) way {
				x, before := w.follow(o, last, shift), ways[last]
				return way{before.cost + x.cost, w.plus(before.got, day, x)}
			}, prices)
		}
		lasts, ways = o.shifts, next
	}
	return first(lasts, func(last crew) way { return ways[last] }, prices)
}

// bound returns what no plan costs less than, by prices, and by how much it grows with each price, if it does: by what lacks of the order in the cheapest ways. Each furnace has a shift that may be.
func (w works) bound(prices []int) (bound int, growth counts) {
	ways := make(chan way)
	for _, o := range w.ovens {
		go func() { ways <- w.cheapest(o, prices) }()
	}
	for i, order := range w.Orders {
		bound += prices[i] * order.Quantity
		growth[i] = order.Quantity
	}
	for range w.ovens {
		x := <-ways
		bound += x.net(prices)
		for i, bottles := range x.got {
			growth[i] -= bottles
		}
	}
	return bound, growth
}

// Bound returns what no plan costs less than, by prices; none if a furnace has no shift that may be.
func Bound(s api.Season, prices []int) (bound int, none bool, e api.Errno) {
	w, e := worksOf(s)
	if e != api.OK {
		return 0, false, e
	}
	if len(prices) != len(s.Orders) {
		return 0, false, api.ErrArg
	}
	for i, order := range s.Orders {
		if !between(prices[i], 0, order.Penalty) {
			return 0, false, api.ErrArg
		}
	}
	if w.stands() {
		return 0, true, api.OK
	}
	bound, _ = w.bound(prices)
	return bound, false, api.OK
}

// Prices are looked for as shares of penalties, in parts of whole, which are moved so many times by at most each step: more rounds, or lesser steps, hardly make a bound greater.
const (
	whole     = 1 << 15
	leastStep = whole >> 9
	rounds    = 10
)

// Prices returns those prices with the greatest bound that it finds. It begins with prices that are all 0.
func Prices(s api.Season) ([]int, api.Errno) {
	w, e := worksOf(s)
	if e != api.OK {
		return nil, e
	}
	shares := make([]int, len(s.Orders))
	if w.stands() {
		return shares, api.OK
	}
	best, most := shares, math.MinInt
climb:
	for step := whole; step >= leastStep; step /= 2 {
		for range rounds {
			prices := w.prices(shares)
			bound, growth := w.bound(prices)
			if bound > most {
				best, most = prices, bound
			}
			moved := w.moved(shares, growth, step)
			if slices.Equal(moved, shares) {
				break climb // lesser steps do not move them either
			}
			shares = moved
		}
	}
	return best, api.OK
}

// prices returns such shares of the orders' penalties.
func (w works) prices(shares []int) []int {
	prices := make([]int, len(shares))
	for i, share := range shares {
		prices[i] = (share*w.Orders[i].Penalty + whole/2) / whole
	}
	return prices
}

// moved returns shares that are moved in proportion to what the bound grows with them, none by more than a step. The bound may become less by it; but as it nowhere bends upwards, its greatest value comes closer.
func (w works) moved(shares []int, growth counts, step int) []int {
	most := 1
	for i, order := range w.Orders {
		growth[i] *= order.Penalty
		most = max(most, growth[i], -growth[i])
	}
	moved := make([]int, len(shares))
	for i, share := range shares {
		moved[i] = min(max(0, share+growth[i]*step/most), whole)
	}
	return moved
}
