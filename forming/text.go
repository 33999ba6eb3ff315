package forming

import (
	"slices"
	"strconv"
	"strings"

	"cullet/api"
)

// Print returns the text of a machine.
func Print(m api.Machine) (string, api.Errno) {
	if e := Check(m); e != api.OK {
		return "", e
	}
	text := ""
	for _, s := range lines(m) {
		text += s + "\n"
	}
	if len(text) > api.MaxText {
		return "", api.ErrLimit
	}
	return text, api.OK
}

// lines returns the lines of the text of a machine that may be.
func lines(m api.Machine) []string {
	all := []string{line("cycle", m.Cycle, m.Spread), line("offsets", m.Offsets...)}
	for _, x := range m.Mechs {
		all = append(all, line("mechanism "+x.Name, x.Home, x.Slack, x.Most))
	}
	for _, mode := range m.Modes {
		all = append(all, line("mode "+mode.Name, mode.Gob, mode.Reject))
		for _, motion := range mode.Motions {
			all = append(all, motionLine(motion))
		}
	}
	for _, g := range m.Guards {
		half := line(guardWord(g.Kind)+" "+m.Mechs[g.A].Name, g.PA.Low, g.PA.High)
		all = append(all, line(half+" "+m.Mechs[g.B].Name, g.PB.Low, g.PB.High))
	}
	return all
}

// line returns words, and numbers behind them.
func line(words string, numbers ...int) string {
	for _, n := range numbers {
		words += " " + strconv.Itoa(n)
	}
	return words
}

func motionLine(motion []api.Knot) string {
	words := "motion"
	for _, k := range motion {
		words += " " + strconv.Itoa(k.At) + ":" + strconv.Itoa(k.Place)
	}
	return words
}

func guardWord(kind api.GuardKind) string {
	if kind == api.GuNext {
		return "next"
	}
	return "same"
}

// Parse returns the machine of a text, or the number of the line that is wrong, and its error.
func Parse(text string) (m api.Machine, line int, e api.Errno) {
	if len(text) > api.MaxText {
		return api.Machine{}, 0, api.ErrLimit
	}
	var r reader
	defer func() {
		if w, is := recover().(wrong); is {
			m, line, e = api.Machine{}, r.line, w.e
		}
	}()
	for s := range strings.Lines(text) {
		r.line++
		r.read(strings.Split(strings.TrimSuffix(s, "\n"), " "))
	}
	if r.stage < atMechs {
		return api.Machine{}, 0, api.ErrForm
	}
	if e := Check(r.m); e != api.OK {
		return api.Machine{}, 0, e
	}
	return r.m, 0, api.OK
}

// The stages of a text: which lines may come next. From atMechs on, those of later stages may come as well, but for motions.
const (
	atCycle = iota
	atOffsets
	atMechs
	atMotions
	atGuards
)

// reader gathers a machine, line by line.
type reader struct {
	m           api.Machine
	line, stage int
}

// wrong is what a line leaves its reader with that has an error.
type wrong struct{ e api.Errno }

// need leaves the reader if a line is not of the form.
func need(is bool) {
	if !is {
		panic(wrong{api.ErrForm})
	}
}

// pass needs to be at one of some stages, and goes to another one.
func (r *reader) pass(least, most, next int) {
	need(between(r.stage, least, most))
	r.stage = next
}

// read adds what a line says to the machine.
func (r *reader) read(words []string) {
	need(!slices.Contains(words, ""))
	rest := words[1:]
	switch words[0] {
	case "cycle":
		r.pass(atCycle, atCycle, atOffsets)
		need(len(rest) == 2)
		r.m.Cycle, r.m.Spread = number(rest[0]), number(rest[1])
	case "offsets":
		r.pass(atOffsets, atOffsets, atMechs)
		r.m.Offsets = numbers(rest)
	case "mechanism":
		r.pass(atMechs, atMechs, atMechs)
		r.mechanism(rest)
	case "mode":
		r.pass(atMechs, atMotions, atMotions)
		r.mode(rest)
	case "motion":
		r.pass(atMotions, atMotions, atMotions)
		r.motion(rest)
	case "same":
		r.pass(atMechs, atGuards, atGuards)
		r.guard(api.GuSame, rest)
	case "next":
		r.pass(atMechs, atGuards, atGuards)
		r.guard(api.GuNext, rest)
	default:
		need(false)
	}
}

func (r *reader) mechanism(words []string) {
	need(len(words) == 4)
	n := numbers(words[1:])
	r.m.Mechs = append(r.m.Mechs, api.Mech{Name: words[0], Home: n[0], Slack: n[1], Most: n[2]})
}

func (r *reader) mode(words []string) {
	need(len(words) == 3)
	n := numbers(words[1:])
	r.m.Modes = append(r.m.Modes, api.Mode{Name: words[0], Gob: n[0], Reject: n[1]})
}

// motion adds a motion to the last mode.
func (r *reader) motion(words []string) {
	var motion []api.Knot
	for _, w := range words {
		at, place, is := strings.Cut(w, ":")
		need(is)
		motion = append(motion, api.Knot{At: number(at), Place: number(place)})
	}
	mode := &r.m.Modes[len(r.m.Modes)-1]
	mode.Motions = append(mode.Motions, motion)
}

func (r *reader) guard(kind api.GuardKind, words []string) {
	need(len(words) == 6)
	a, b := numbers(words[1:3]), numbers(words[4:6])
	r.m.Guards = append(r.m.Guards, api.Guard{
		Kind: kind,
		A:    r.mech(words[0]),
		B:    r.mech(words[3]),
		PA:   api.Span{Low: a[0], High: a[1]},
		PB:   api.Span{Low: b[0], High: b[1]},
	})
}

// mech returns the number of the mechanism with this name.
func (r *reader) mech(name string) int {
	n := findMech(r.m.Mechs, name)
	if n < 0 {
		panic(wrong{api.ErrNone})
	}
	return n
}

// number returns the number of a word. Whatever is written otherwise than it would be printed is none.
func number(word string) int {
	const most = 9999999999 // ten digits
	n, err := strconv.Atoi(word)
	need(err == nil && strconv.Itoa(n) == word && between(n, -most, most))
	return n
}

func numbers(words []string) []int {
	var all []int
	for _, w := range words {
		all = append(all, number(w))
	}
	return all
}

// Same tells whether two machines are equal in all fields.
func Same(a, b api.Machine) bool {
	return a.Cycle == b.Cycle && a.Spread == b.Spread && slices.Equal(a.Offsets, b.Offsets) &&
		slices.Equal(a.Mechs, b.Mechs) && slices.Equal(a.Guards, b.Guards) && slices.EqualFunc(a.Modes, b.Modes, sameMode)
}

func sameMode(a, b api.Mode) bool {
	return a.Name == b.Name && a.Gob == b.Gob && a.Reject == b.Reject && slices.EqualFunc(a.Motions, b.Motions, slices.Equal[[]api.Knot])
}
