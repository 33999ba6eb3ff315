package forming_test

import (
	"math/big"
	"math/rand"
	"testing"

	"cullet/api"
	"cullet/forming"
)

// history is where each mechanism of each section is, by Place, at all quarters of ticks up to a time.
func history(t *testing.T, m api.Machine, l []api.Switch, till int) [][][]*big.Rat {
	t.Helper()
	return many(len(m.Offsets), func(section int) [][]*big.Rat {
		return many(len(m.Mechs), func(mech int) []*big.Rat {
			return many(quarters*till+1, func(q int) *big.Rat {
				p, e := forming.Place(m, l, section, mech, fromRat(big.NewRat(int64(q), quarters)))
				equal(t, "error", e, api.OK)
				return rat(p)
			})
		})
	})
}

// meets tells whether at some time, with some lags within the slacks, two mechanisms are both in their spans.
func meets(m api.Machine, g api.Guard, a, b []*big.Rat) bool {
	slack := quarters * (m.Mechs[g.A].Slack + m.Mechs[g.B].Slack)
	for i, x := range a {
		if !inSpan(x, g.PA) {
			continue
		}
		for j := max(0, i-slack); j <= min(i+slack, len(b)-1); j++ {
			if inSpan(b[j], g.PB) {
				return true
			}
		}
	}
	return false
}

// TestNever: in a machine that is safe, by a log that Drive allows, no two mechanisms are where a guard forbids it, and positions do not jump (P4.5).
func TestNever(t *testing.T) {
	r := rand.New(rand.NewSource(51))
	switched := 0
	for range 150 {
		m := safeMachine(r)
		l := someLog(r, m, 5)
		till := 3 * m.Cycle
		for i, s := range l {
			till = max(till, s.Time+2*m.Cycle)
			if i > 0 && s.Mode != l[i-1].Mode {
				switched++
			}
		}
		places := history(t, m, l, min(till, 12*m.Cycle))
		for section := range m.Offsets {
			for _, g := range m.Guards {
				other := section
				if g.Kind == api.GuNext {
					other++
				}
				if other < len(m.Offsets) && meets(m, g, places[section][g.A], places[other][g.B]) {
					t.Fatal("a guard is broken", m, l, g, section)
				}
			}
			for mech, x := range m.Mechs {
				for i, p := range places[section][mech][1:] {
					way := new(big.Rat).Sub(p, places[section][mech][i])
					if way.Abs(way).Cmp(big.NewRat(int64(x.Most), quarters)) > 0 {
						t.Fatal("a position jumps", m, l, section, mech, i)
					}
				}
			}
		}
	}
	if switched < 50 {
		t.Fatal("too few switches", switched)
	}
}

// TestGobsSpread: gobs of different sections are at least Spread apart; those of one section are a cycle apart while it does not switch (P4.6).
func TestGobsSpread(t *testing.T) {
	r := rand.New(rand.NewSource(52))
	pairs := 0
	for range 400 {
		m := safeMachine(r)
		l := someLog(r, m, 6)
		all, e := forming.Gobs(m, l, 0, 12*m.Cycle)
		equal(t, "error", e, api.OK)
		for i, x := range all {
			for _, y := range all[:i] {
				if x.Section != y.Section {
					pairs++
					if x.Time-y.Time < m.Spread {
						t.Fatal("too close", m, l, x, y)
					}
					continue
				}
				before, _ := modeAlike(l, y.Section, rat(whole(y.Time)))
				now, _ := modeAlike(l, x.Section, rat(whole(x.Time)))
				if d := x.Time - y.Time; before == now && (d < m.Cycle || d%m.Cycle != 0) {
					t.Fatal("not a cycle apart", m, l, x, y)
				}
			}
		}
	}
	if pairs < 1000 {
		t.Fatal("too few gobs", pairs)
	}
}
