package forming_test

import (
	"math/rand"
	"strings"
	"testing"

	"cullet/api"
	"cullet/forming"
)

const pressText = `cycle 100 30
offsets 0 50
mechanism plunger 0 2 5
mechanism arm 0 3 20
mode run 5 2
motion 0:0 20:100 60:100 80:0
motion 0:0 80:0 85:100 95:100
mode rest -1 0
motion
motion
mode swab 15 1
motion 0:0 80:0
motion 0:0 50:0 60:100
same plunger 50 100 arm 50 100
next arm 90 100 arm 90 100
`

// small is a machine whose names are words of the form.
func small() api.Machine {
	return api.Machine{
		Cycle:  1,
		Mechs:  []api.Mech{{Name: "motion", Home: 7}},
		Modes:  []api.Mode{{Name: "same", Motions: [][]api.Knot{knots(0, 1000000)}, Gob: -1}},
		Guards: []api.Guard{guard(api.GuSame, 0, span(9, 0), 0, span(1000000, 0))},
	}
}

const smallText = "cycle 1 0\noffsets\nmechanism motion 7 0 0\nmode same -1 0\nmotion 0:1000000\nsame motion 9 0 motion 1000000 0\n"

func TestPrint(t *testing.T) {
	for want, m := range map[string]api.Machine{
		pressText:                               press(),
		smallText:                               small(),
		"cycle 9 4\noffsets\n":                  {Cycle: 9, Offsets: []int{}, Spread: 4},
		"cycle 9 0\noffsets 8\nmode a 8 3600\n": {Cycle: 9, Offsets: []int{8}, Modes: []api.Mode{{Name: "a", Gob: 8, Reject: 3600}}},
	} {
		got, e := forming.Print(m)
		equal(t, "error", e, api.OK)
		equal(t, "text", got, want)
	}
}

func TestParse(t *testing.T) {
	for text, want := range map[string]api.Machine{pressText: press(), smallText: small(), strings.TrimSuffix(pressText, "\n"): press(), "cycle 9 4\noffsets": {Cycle: 9, Spread: 4}} {
		got, line, e := forming.Parse(text)
		equal(t, "error", e, api.OK)
		equal(t, "line", line, 0)
		equal(t, "same", forming.Same(got, want), true)
	}
	// what may stand behind what, with a guard behind no mode, modes behind no mechanism
	for _, text := range []string{
		"cycle 9 4\noffsets\nmechanism a 0 0 0\nsame a 0 0 a 1 1\nnext a 0 0 a 1 1\nsame a 0 0 a 1 1\n",
		"cycle 9 4\noffsets 1 2 3\nmode a 0 0\nmode b 0 0\n",
		"cycle 9 4\noffsets\nmechanism a 0 0 0\nmode a 0 0\nmotion\nmode b 0 0\nmotion 0:0\nnext a 0 0 a 1 1",
	} {
		_, line, e := forming.Parse(text)
		equal(t, "error", e, api.OK)
		equal(t, "line", line, 0)
	}
}

// TestThereAndBack: the text of a machine is parsed as that machine (P4.7).
func TestThereAndBack(t *testing.T) {
	r := rand.New(rand.NewSource(11))
	for range 3000 {
		m := someMachine(r)
		text, e := forming.Print(m)
		equal(t, "error", e, api.OK)
		got, line, e := forming.Parse(text)
		equal(t, "error", e, api.OK)
		equal(t, "line", line, 0)
		equal(t, "machine", got, m)
		equal(t, "same", forming.Same(got, m), true)
	}
	// the longest text there is
	m := api.Machine{Cycle: api.MaxCycle, Offsets: make([]int, api.MaxSections)}
	manyMechs(api.MaxMechs)(&m)
	m.Modes = many(api.MaxModes, func(i int) api.Mode {
		return api.Mode{Name: "mode-" + string(rune('a'+i)), Motions: many(api.MaxMechs, func(int) []api.Knot {
			return many(api.MaxKnots, func(k int) api.Knot { return api.Knot{At: k * 225, Place: api.MaxPlace} })
		})}
	})
	manyGuards(api.MaxGuards)(&m)
	text, e := forming.Print(m)
	equal(t, "error", e, api.OK)
	got, _, e := forming.Parse(text)
	equal(t, "error", e, api.OK)
	equal(t, "same", forming.Same(got, m), true)
}

// parseFails tells that a text has this error at this line, and gives nothing.
func parseFails(t *testing.T, text string, line int, e api.Errno) {
	t.Helper()
	m, gotLine, got := forming.Parse(text)
	if gotLine != line || !onlyError([]any{m, got}, e) {
		t.Errorf("%.200q: got %v, line %d, error %d; want line %d, error %d", text, m, gotLine, got, line, e)
	}
}

func TestParseForms(t *testing.T) {
	lines := []string{"cycle 100 3", "offsets 1 2", "mechanism a 1 2 3", "mode b 4 5", "motion 0:1 2:3", "next a 0 1 a 2 3"}
	if _, _, e := forming.Parse(strings.Join(lines, "\n")); e != api.OK {
		t.Fatal(e)
	}
	numbers := []string{"", "01", "+1", "-0", "00", "1.0", "0x1", "1_0", "-", "1e3", "1\r", "\t1", "x", "\xff", "10000000000", "-10000000000", "00000000001", "99999999999999999999", "--1", " 1", "1 "}
	forms := [][]string{
		{"", " ", "cycle", "cycle ", "cycle 1", "cycle 1 ", "cycle 1 1 1", "cycle  1 1", "cycle 1  1", " cycle 1 1", "cycle 1 1 ", "Cycle 1 1", "cycles 1 1", "cycle\t1 1", "\x00", "\r"},
		{"", "offset 1", "offsets ", "offsets  1", " offsets 1", "offsets 1 ", "Offsets 1", "offsets\t1", "offsets,"},
		{"", "mechanism", "mechanism ", "mechanism a", "mechanism a 1 2", "mechanism a 1 2 ", "mechanism a 1 2 3 4", "mechanism  1 2 3", "mechanism a  1 2 3", "mechanisms a 1 2 3", "mech a 1 2 3", "mechanism\ta 1 2 3"},
		{"", "mode", "mode ", "mode b", "mode b 1", "mode b 1 ", "mode b 1 2 3", "mode  1 2", "modes b 1 2", "mode\tb 1 2"},
		{"", "motion ", " motion", "motion  0:0", "motion 0:0 ", "motion 0", "motion 0:", "motion :0", "motion :", "motion ::", "motion 0:0:0", "motion 0: 0", "motion 0 :0", "motion 0;0", "motion 0:0,1:1", "motions", "motion\t0:0"},
		{"", "next", "next a 0 1 a 2", "next a 0 1 a 2 3 4", "next a 0 1  2 3", "next  0 1 a 2 3", "next a 0 1 a 2 3 ", "near a 0 1 a 2 3", "next a a 0 1 2 3", "next\ta 0 1 a 2 3", "next z 0 1 z x 3", "same a 0 a 2"},
	}
	for _, n := range numbers {
		forms[0] = append(forms[0], "cycle 100 "+n, "cycle "+n+" 3")
		forms[1] = append(forms[1], "offsets "+n, "offsets 1 "+n+" 2")
		forms[2] = append(forms[2], "mechanism a "+n+" 2 3", "mechanism a 1 "+n+" 3", "mechanism a 1 2 "+n)
		forms[3] = append(forms[3], "mode b "+n+" 5", "mode b 4 "+n)
		forms[4] = append(forms[4], "motion 0:1 2:"+n, "motion "+n+":1", "motion 0:1 "+n+":3")
		forms[5] = append(forms[5], "next a "+n+" 1 a 2 3", "same a 0 "+n+" a 2 3", "next z 0 1 z "+n+" 3", "same a 0 1 a 2 "+n)
	}
	for i, list := range forms {
		for _, form := range list {
			changed := append([]string{}, lines...)
			changed[i] = form
			if i == len(forms)-1 {
				changed = append(changed, lines[i])
			}
			parseFails(t, strings.Join(changed, "\n")+"\n", i+1, api.ErrForm)
			// a line that is wrong decides before whatever comes behind it, and before Check
			parseFails(t, strings.Join(changed[:i+1], "\n")+"\nnext x 0 0 x 0 0\n", i+1, api.ErrForm)
		}
	}
}

func TestParseOrder(t *testing.T) {
	head := "cycle 100 3\noffsets\nmechanism a 0 0 0\nmode b 0 0\nmotion\n"
	guard := "same a 0 0 a 0 0\n"
	parseFails(t, "", 0, api.ErrForm)
	parseFails(t, "\n", 1, api.ErrForm)
	parseFails(t, "cycle 100 3\n", 0, api.ErrForm)
	parseFails(t, "cycle 0 3", 0, api.ErrForm)
	parseFails(t, "offsets\n", 1, api.ErrForm)
	parseFails(t, "offsets\ncycle 100 3\n", 1, api.ErrForm)
	parseFails(t, "mechanism a 0 0 0\n", 1, api.ErrForm)
	parseFails(t, "motion\n", 1, api.ErrForm)
	parseFails(t, guard, 1, api.ErrForm)
	parseFails(t, "cycle 100 3\ncycle 100 3\noffsets\n", 2, api.ErrForm)
	parseFails(t, "cycle 100 3\nmechanism a 0 0 0\noffsets\n", 2, api.ErrForm)
	parseFails(t, "cycle 100 3\nmode b 0 0\n", 2, api.ErrForm)
	parseFails(t, "cycle 100 3\nmotion\n", 2, api.ErrForm)
	parseFails(t, "cycle 100 3\n"+guard, 2, api.ErrForm)
	parseFails(t, "cycle 100 3\n\noffsets\n", 2, api.ErrForm)
	parseFails(t, "cycle 100 3\noffsets\nmotion\n", 3, api.ErrForm)
	parseFails(t, "cycle 100 3\noffsets\noffsets\n", 3, api.ErrForm)
	parseFails(t, "cycle 100 3\noffsets\nmechanism a 0 0 0\nmotion\n", 4, api.ErrForm)
	parseFails(t, head+"cycle 100 3\n", 6, api.ErrForm)
	parseFails(t, head+"offsets\n", 6, api.ErrForm)
	parseFails(t, head+"mechanism c 0 0 0\n", 6, api.ErrForm)
	parseFails(t, head+guard+"motion\n", 7, api.ErrForm)
	parseFails(t, head+guard+"mode c 0 0\n", 7, api.ErrForm)
	parseFails(t, head+guard+"mechanism c 0 0 0\n", 7, api.ErrForm)
	parseFails(t, head+guard+"offsets\n", 7, api.ErrForm)
	parseFails(t, head+guard+"\n", 7, api.ErrForm)
	parseFails(t, head+guard+" ", 7, api.ErrForm)
	parseFails(t, "cycle 100 3\noffsets\n"+strings.TrimSuffix(guard, " a 0 0\n"), 3, api.ErrForm)
}

// TestParseMechs: a guard's mechanisms are those with the names, the first ones (P4.2).
func TestParseMechs(t *testing.T) {
	head := "cycle 100 3\noffsets\nmechanism a 0 0 0\nmechanism b 0 0 0\n"
	for _, line := range []string{"same c 0 0 a 0 0", "same a 0 0 c 0 0", "next A 0 0 a 0 0", "next a 0 0 b\r 0 0", "same 0 0 0 1 0 0", "next a 0 0 aa 0 0"} {
		parseFails(t, head+line+"\n", 5, api.ErrNone)
		parseFails(t, head+"same a 0 0 b 0 0\n"+line+"\nsame\n", 6, api.ErrNone)
	}
	parseFails(t, "cycle 0 3\noffsets\nsame a 0 0 a 0 0\n", 3, api.ErrNone)
	m, _, e := forming.Parse(head + "next b 1 2 a 3 4\n")
	equal(t, "error", e, api.OK)
	same(t, "guards", m.Guards, []api.Guard{guard(api.GuNext, 1, span(1, 2), 0, span(3, 4))})
	// that the first one is meant shows in no result: two mechanisms with a name are Check's error
	parseFails(t, head+"mechanism a 0 0 0\nsame a 0 0 b 0 0\n", 0, api.ErrTwice)
}

// TestParseCheck: a text that is of the form gives Check's error, without a line.
func TestParseCheck(t *testing.T) {
	head := "cycle 100 3\noffsets\nmechanism a 0 0 9\n"
	for text, want := range map[string]api.Errno{
		"cycle 0 0\noffsets\n":                                   api.ErrArg,
		"cycle -9999999999 0\noffsets\n":                         api.ErrArg,
		"cycle 9999999999 0\noffsets\n":                          api.ErrArg,
		"cycle 100 101\noffsets\n":                               api.ErrArg,
		"cycle 100 0\noffsets 100\n":                             api.ErrArg,
		"cycle 100 0\noffsets" + strings.Repeat(" 0", 17):        api.ErrLimit,
		"cycle 100 0\noffsets\nmechanism A 0 0 0":                api.ErrName,
		"cycle 100 0\noffsets\nmechanism a\t 0 0 0":              api.ErrName,
		"cycle 100 0\noffsets\nmechanism a:0 -1 0 0":             api.ErrName,
		"cycle 100 0\noffsets\nmechanism a 0 26 0":               api.ErrArg,
		head + "mode b 0 0":                                      api.ErrArg,
		head + "mode b 0 0\nmotion\nmotion":                      api.ErrArg,
		head + "mode 7 0 0\nmotion":                              api.ErrName,
		head + "mode b 0 0\nmotion\nmode b 0 0\nmotion":          api.ErrTwice,
		head + "mode b 0 0\nmotion -1:0":                         api.ErrArg,
		head + "mode b 0 0\nmotion 0:-1":                         api.ErrArg,
		head + "mode b 0 0\nmotion 0:0 1:10 50:0":                api.ErrScope,
		head + "mode b -2 0\nmotion":                             api.ErrArg,
		head + "mode b 0 0\nmotion" + strings.Repeat(" 0:0", 17): api.ErrLimit,
		head + "same a -1 0 a 0 0":                               api.ErrArg,
		head + "same a 0 1000001 a 0 0":                          api.ErrArg,
		head + strings.Repeat("same a 0 0 a 0 0\n", 33):          api.ErrLimit,
		head + strings.Repeat("mechanism a 0 0 0\n", 8):          api.ErrLimit,
	} {
		parseFails(t, text, 0, want)
	}
}

func TestParseLimit(t *testing.T) {
	parseFails(t, strings.Repeat("x", api.MaxText), 1, api.ErrForm)
	parseFails(t, strings.Repeat("x", api.MaxText+1), 0, api.ErrLimit)
	parseFails(t, pressText+strings.Repeat("\n", api.MaxText), 0, api.ErrLimit)
	// a text that is as long as may be, and of the form
	head, tail := "cycle 1 0\noffsets\nmechanism ", " 0 0 0"
	long := head + strings.Repeat("b", api.MaxText-len(head)-len(tail)) + tail
	parseFails(t, long, 0, api.ErrName)
	parseFails(t, long+"\n", 0, api.ErrLimit)
}

// TestSame: machines are the same just if they are equal in each field (P4.2).
func TestSame(t *testing.T) {
	changes := []func(*api.Machine){
		func(m *api.Machine) { m.Cycle++ },
		func(m *api.Machine) { m.Spread++ },
		func(m *api.Machine) { m.Offsets[1]++ },
		func(m *api.Machine) { m.Offsets = m.Offsets[:1] },
		func(m *api.Machine) { m.Mechs = m.Mechs[:1] },
		func(m *api.Machine) { m.Mechs[1].Name = "a" },
		func(m *api.Machine) { m.Mechs[1].Home++ },
		func(m *api.Machine) { m.Mechs[1].Slack++ },
		func(m *api.Machine) { m.Mechs[1].Most++ },
		func(m *api.Machine) { m.Modes = m.Modes[:2] },
		func(m *api.Machine) { m.Modes[1].Name = "b" },
		func(m *api.Machine) { m.Modes[1].Gob++ },
		func(m *api.Machine) { m.Modes[1].Reject++ },
		func(m *api.Machine) { m.Modes[1].Motions = m.Modes[1].Motions[:1] },
		func(m *api.Machine) { m.Modes[1].Motions[1] = knots(0, 0) },
		func(m *api.Machine) { m.Modes[0].Motions[1][2].At++ },
		func(m *api.Machine) { m.Modes[0].Motions[1][2].Place++ },
		func(m *api.Machine) { m.Guards = m.Guards[:1] },
		func(m *api.Machine) { m.Guards[1].Kind = api.GuSame },
		func(m *api.Machine) { m.Guards[1].A = 0 },
		func(m *api.Machine) { m.Guards[1].B = 0 },
		func(m *api.Machine) { m.Guards[1].PA.Low++ },
		func(m *api.Machine) { m.Guards[1].PA.High++ },
		func(m *api.Machine) { m.Guards[1].PB.Low++ },
		func(m *api.Machine) { m.Guards[1].PB.High++ },
	}
	for i, change := range changes {
		m := press()
		change(&m)
		if forming.Same(m, press()) || forming.Same(press(), m) {
			t.Error("the same in spite of change", i)
		}
		equal(t, "itself", forming.Same(m, m), true)
	}
	equal(t, "equal", forming.Same(press(), press()), true)
	equal(t, "nothing", forming.Same(api.Machine{}, api.Machine{}), true)
	empty := api.Machine{Offsets: []int{}, Mechs: []api.Mech{}, Modes: []api.Mode{}, Guards: []api.Guard{}}
	equal(t, "empty", forming.Same(api.Machine{}, empty), true)
	none := api.Machine{Cycle: -7, Modes: []api.Mode{{}, {Motions: [][]api.Knot{nil}}}}
	other := api.Machine{Cycle: -7, Modes: []api.Mode{{Motions: [][]api.Knot{}}, {Motions: [][]api.Knot{{}}}}}
	equal(t, "empty motions", forming.Same(none, other), true)
	equal(t, "no motions", forming.Same(none, api.Machine{Cycle: -7, Modes: []api.Mode{{}, {}}}), false)
}
