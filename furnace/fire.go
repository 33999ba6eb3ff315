package furnace

import (
	"slices"

	"cullet/api"
)

// Gain returns by how many tenths of a degree a zone becomes warmer in a minute.
func Gain(hold int, power, loss api.Span) (api.Span, api.Errno) {
	if !between(hold, 1, api.MaxHold) || !within(power, 0, api.MaxPower) || !within(loss, 0, api.MaxPower) {
		return api.Span{}, api.ErrArg
	}
	return api.Span{
		Low:  down(500*(power.Low-loss.High), hold),
		High: up(500*(power.High-loss.Low), hold),
	}, api.OK
}

// Reverse returns a plan of so many minutes in which two phases take turns.
func Reverse(first, second api.Phase, minutes int) ([]api.Phase, api.Errno) {
	if !between(first.Minutes, 1, api.MaxMinutes) || !between(second.Minutes, 1, api.MaxMinutes) || !isTime(minutes) {
		return nil, api.ErrArg
	}
	var plan []api.Phase
	for now, then := first, second; minutes > 0; now, then = then, now {
		if len(plan) == api.MaxPhases {
			return nil, api.ErrLimit
		}
		p := now
		p.Minutes = min(p.Minutes, minutes)
		p.Gains = slices.Clone(p.Gains)
		plan = append(plan, p)
		minutes -= p.Minutes
	}
	return plan, api.OK
}
