package house_test

import (
	"fmt"
	"math/rand"
	"regexp"
	"slices"
	"strings"
	"testing"

	"cullet/api"
	"cullet/batch"
	"cullet/forming"
	"cullet/furnace"
	"cullet/house"
	"cullet/inspect"
	"cullet/ledger"
	"cullet/moulds"
)

// item is a thing of the model, with what its kind has.
type item struct {
	kind     string
	batch    api.Batch
	furnace  api.Furnace
	machine  api.Machine
	switches []api.Switch
	shop     api.Shop
	holds    []api.Hold
	checker  api.Checker
	runs     []api.Run
	book     api.Book
}

// model is a house as the chapter says it, line by line.
type model struct {
	names  []string
	items  map[string]item
	papers []api.Paper
	forms  map[string]*regexp.Regexp
}

func newModel() *model { return &model{items: map[string]item{}, forms: forms()} }

// table is the first column of the chapter's table, with the kinds of names as their first letters there, and I for those of lines of inspection.
const table = `best B
glass B KILOS
change F MODE MINUTES B OXIDE LOW HIGH BOTH
safe M
run NEW M
switch R SECTION MODE TIME
soonest R SECTION MODE TIME
made R S FROM TO
worn R S TO
trace R S TIME NUMBER
culprits R S SIGHTS
entry L ENTRY
judge L
hold S NUMBER FROM TO
release L R S
post K POST
pack K L R S TIME LOT LOW HIGH
certify K TIME LOT
share K PERIOD
charge K B TIME KILOS
audit`

// kindOf are the kinds of the names in the table.
var kindOf = map[string]string{"B": "batch", "F": "furnace", "M": "machine", "R": "run", "S": "shop", "L": "log", "K": "book", "I": "line"}

// patterns are what may stand in the places of the table.
func pattern(place string) string {
	const name, number, word = `[a-z][a-z0-9-]{0,15}`, `(?:0|-?[1-9][0-9]{0,9})`, `[^ \n]+`
	switch {
	case place == "NEW" || kindOf[place] != "":
		return " (" + name + ")"
	case place == "MODE" || place == "OXIDE":
		return " (" + word + ")"
	case place == "ENTRY" || place == "POST":
		return " (" + word + "(?: " + word + ")*)"
	case place == "KILOS":
		return "((?: " + number + ")*)"
	case place == "BOTH":
		return "((?: " + number + " " + number + ")*)"
	case place == "SIGHTS":
		return "((?: " + number + ":" + number + ")+)"
	}
	return " (" + number + ")"
}

// forms are the rows of the table, and what lines of them look like.
func forms() map[string]*regexp.Regexp {
	all := map[string]*regexp.Regexp{}
	for _, row := range strings.Split(table, "\n") {
		places := strings.Fields(row)
		form := "^" + places[0]
		for _, place := range places[1:] {
			form += pattern(place)
		}
		all[row] = regexp.MustCompile(form + "\n?$")
	}
	return all
}

// formOf returns the row of the table that a line is of, and what stands in its places.
func (m *model) formOf(line string) (row string, words map[string]string) {
	for row, form := range m.forms {
		if found := form.FindStringSubmatch(line); found != nil {
			words := map[string]string{}
			for i, place := range strings.Fields(row)[1:] {
				words[place] = found[i+1]
			}
			return row, words
		}
	}
	return "", nil
}

// does returns what a house like this one answers, and does it, if nothing goes wrong.
func (m *model) does(line string) (string, api.Errno) {
	if strings.HasPrefix(line, "make ") {
		return m.makes(line)
	}
	row, words := m.formOf(line)
	if row == "" {
		return "", api.ErrForm
	}
	if e := m.nameError(row, words); e != api.OK {
		return "", e
	}
	s := step{model: m, w: words, row: strings.Fields(row)[0]}
	for place := range words {
		if kindOf[place] != "" {
			s.take(m.items[words[place]])
		}
	}
	answer, e := s.do()
	if e != api.OK {
		return "", e
	}
	if s.name != "" {
		m.put(s.name, s.out)
	}
	if s.paper.Kind != api.PaNone {
		answer += fmt.Sprintf(" [%d]", len(m.papers))
		m.papers = append(m.papers, s.paper)
	}
	return answer, api.OK
}

// nameError returns the error of the names in a line.
func (m *model) nameError(row string, words map[string]string) api.Errno {
	if name, is := words["NEW"]; is && m.items[name].kind != "" {
		return api.ErrTwice
	}
	for place, name := range words {
		if kind := kindOf[place]; kind != "" && m.items[name].kind != kind {
			return api.ErrNone
		}
	}
	if strings.Contains(row, "NEW") && len(m.names) == api.MaxThings {
		return api.ErrLimit
	}
	return api.OK
}

func (m *model) put(name string, x item) {
	if m.items[name].kind == "" {
		m.names = append(m.names, name)
	}
	m.items[name] = x
}

// makes does a block.
func (m *model) makes(text string) (string, api.Errno) {
	found := regexp.MustCompile(`(?s)^make ((?:batch|furnace|machine|shop|line|book)|log) ([a-z][a-z0-9-]{0,15})( [a-z][a-z0-9-]{0,15})?\n(.*?)end$`).FindStringSubmatch(text)
	if found == nil || (found[1] == "log") != (found[3] != "") || found[4] != "" && !strings.HasSuffix(found[4], "\n") || strings.HasPrefix(found[4], "end\n") || strings.Contains(found[4], "\nend\n") {
		return "", api.ErrForm
	}
	x, name, body := item{kind: found[1]}, found[2], found[4]
	of := m.items[strings.TrimPrefix(found[3], " ")]
	switch {
	case m.items[name].kind != "":
		return "", api.ErrTwice
	case x.kind == "log" && of.kind != "line":
		return "", api.ErrNone
	case len(m.names) == api.MaxThings:
		return "", api.ErrLimit
	}
	var e api.Errno
	switch x.kind {
	case "batch":
		x.batch, _, e = batch.Parse(body)
	case "furnace":
		x.furnace, _, e = furnace.Parse(body)
	case "machine":
		x.machine, _, e = forming.Parse(body)
	case "shop":
		x.shop, _, e = moulds.Parse(body)
	case "line":
		x.checker, _, e = inspect.Parse(body)
	case "log":
		x.checker = of.checker
		x.runs, _, e = inspect.Read(x.checker, body)
	case "book":
		x.book, _, e = ledger.Read(body)
		if e == api.OK {
			e = right(x.book)
		}
		if e == api.OK && slices.ContainsFunc(x.book.Posts, func(p api.Post) bool { return p.Kind == api.PoPack }) {
			e = api.ErrScope
		}
	}
	if e != api.OK {
		return "", e
	}
	m.put(name, x)
	return "made " + name, api.OK
}

// right returns what is wrong with a book that a house may not have.
func right(b api.Book) api.Errno {
	if e := ledger.Check(b); e != api.OK {
		return e
	}
	if n, _, _, _ := ledger.Wrong(b); n != len(b.Posts) {
		return api.ErrClash
	}
	if n, _ := ledger.Covered(b); n != len(b.Posts) {
		return api.ErrSum
	}
	return api.OK
}

// step is a line that the model does: its words, its things, and what comes of it.
type step struct {
	*model
	row                                                           string
	w                                                             map[string]string
	batch, furnace, machine, run, shop, log, book, checker, other item
	name                                                          string
	out                                                           item
	paper                                                         api.Paper
}

func (s *step) take(x item) {
	*map[string]*item{"batch": &s.batch, "furnace": &s.furnace, "machine": &s.machine, "run": &s.run, "shop": &s.shop, "log": &s.log, "book": &s.book}[x.kind] = x
}

// n is the number in a place.
func (s *step) n(place string) int { return numbers(s.w[place])[0] }

func (s *step) mode() int {
	return slices.IndexFunc(s.run.machine.Modes, func(x api.Mode) bool { return x.Name == s.w["MODE"] })
}

func (s *step) do() (string, api.Errno) {
	switch s.row {
	case "best", "glass", "change":
		return s.doGlass()
	case "safe", "run", "switch", "soonest":
		return s.doMachine()
	case "made", "worn", "trace", "culprits":
		return s.doWare()
	case "entry", "judge", "hold", "release":
		return s.doLots()
	case "audit":
		return fmt.Sprintf("audit: good %d", len(s.papers)), api.OK
	}
	return s.doBook()
}

// spread are the words of a list, each behind a blank.
func spread[T any](list []T) string {
	text := ""
	for _, x := range list {
		text += fmt.Sprint(" ", x)
	}
	return text
}

func (s *step) doGlass() (string, api.Errno) {
	kilos := numbers(s.w["KILOS"] + s.w["BOTH"])
	switch s.row {
	case "best":
		recipe, cost, found, e := batch.Best(s.batch.batch)
		if e != api.OK || !found {
			return "best: none", e
		}
		proof, e := batch.Prove(s.batch.batch)
		s.paper = api.Paper{Kind: api.PaBest, Batch: s.batch.batch, Recipe: recipe, Proof: proof}
		return fmt.Sprintf("best:%s cost %d", spread(recipe), cost), e
	case "glass":
		shares, e := batch.Glass(s.batch.batch, kilos)
		text := "glass:"
		for i, x := range shares {
			text += fmt.Sprintf(" %s:%d-%d", s.batch.batch.Oxides[i], x.Low, x.High)
		}
		return text, e
	}
	mode, oxide := slices.Index(s.furnace.furnace.Modes, s.w["MODE"]), slices.Index(s.batch.batch.Oxides, s.w["OXIDE"])
	if mode < 0 || oxide < 0 {
		return "", api.ErrNone
	}
	half := len(kilos) / 2
	may, must, e := furnace.Change(s.furnace.furnace, mode, s.n("MINUTES"), s.batch.batch, kilos[:half], kilos[half:], oxide, span(s.n("LOW"), s.n("HIGH")))
	return fmt.Sprintf("change: %d %d", may, must), e
}

func (s *step) doMachine() (string, api.Errno) {
	switch s.row {
	case "safe":
		safe, e := forming.Safe(s.machine.machine)
		if !safe {
			broken, e := forming.Broken(s.machine.machine)
			return fmt.Sprintf("not safe: %d", len(broken)), e
		}
		s.paper = api.Paper{Kind: api.PaSafe, Machine: s.machine.machine}
		return "safe", e
	case "run":
		_, e := forming.Drive(s.machine.machine, nil)
		s.name, s.out = s.w["NEW"], item{kind: "run", machine: s.machine.machine}
		return "run " + s.name, e
	}
	if s.mode() < 0 {
		return "", api.ErrNone
	}
	if s.row == "soonest" {
		at, found, e := forming.Soonest(s.run.machine, s.run.switches, s.n("SECTION"), s.mode(), s.n("TIME"))
		if !found {
			return "soonest: never", e
		}
		return fmt.Sprintf("soonest: %d", at), e
	}
	s.name, s.out = s.w["R"], s.run
	s.out.switches = append(slices.Clone(s.run.switches), api.Switch{Section: s.n("SECTION"), Mode: s.mode(), Time: s.n("TIME")})
	_, e := forming.Drive(s.run.machine, s.out.switches)
	return fmt.Sprintf("%s: %d switches", s.name, len(s.out.switches)), e
}

// shows are the numbers that moulds show.
func (s *step) shows(all []int) string {
	var shown []int
	for _, x := range all {
		shown = append(shown, s.shop.shop.Moulds[x].Number)
	}
	return spread(shown)
}

func (s *step) doWare() (string, api.Errno) {
	x, m, w := s.shop.shop, s.run.machine, s.run.switches
	switch s.row {
	case "made":
		ware, e := moulds.Made(x, m, w, s.n("FROM"), s.n("TO"))
		kept := slices.DeleteFunc(slices.Clone(ware), func(x api.Ware) bool { return !x.Kept })
		return fmt.Sprintf("made: %d kept %d", len(ware), len(kept)), e
	case "worn":
		all, e := moulds.Worn(x, m, w, s.n("TO"))
		return "worn:" + s.shows(all), e
	case "trace":
		ware, e := moulds.Sources(x, m, w, api.Sight{Time: s.n("TIME"), Number: s.n("NUMBER")})
		text := "trace:"
		for _, x := range ware {
			text += fmt.Sprintf(" %d.%d.%d", x.Section, x.Cavity, x.Time)
		}
		return text, e
	}
	var sights []api.Sight
	for _, word := range strings.Fields(s.w["SIGHTS"]) {
		both := numbers(strings.Replace(word, ":", " ", 1))
		sights = append(sights, api.Sight{Time: both[0], Number: both[1]})
	}
	_, first, sure, e := moulds.Culprits(x, m, w, sights)
	return "culprits:" + s.shows(first) + "; sure:" + s.shows(sure), e
}

func (s *step) released() ([]int, api.Errno) {
	return inspect.Release(s.log.checker, s.log.runs, s.shop.shop, s.run.machine, s.run.switches, s.shop.holds)
}

func (s *step) doLots() (string, api.Errno) {
	switch s.row {
	case "entry":
		text, _ := inspect.Write(s.log.checker, s.log.runs)
		all, _, e := inspect.Read(s.log.checker, text+s.w["ENTRY"]+"\n")
		s.name, s.out = s.w["L"], s.log
		s.out.runs = all
		return fmt.Sprintf("%s: %d entries", s.name, len(all)), e
	case "judge":
		clear, blocked, open, e := inspect.Lots(s.log.checker, s.log.runs)
		return fmt.Sprintf("clear:%s; blocked:%s; open:%s", spread(clear), spread(blocked), spread(open)), e
	case "hold":
		mould := slices.IndexFunc(s.shop.shop.Moulds, func(x api.Mould) bool { return x.Number == s.n("NUMBER") })
		if mould < 0 {
			return "", api.ErrNone
		}
		s.name, s.out = s.w["S"], s.shop
		s.out.holds = append(slices.Clone(s.shop.holds), api.Hold{Mould: mould, From: s.n("FROM"), To: s.n("TO")})
		if len(s.shop.holds) == api.MaxHolds {
			return "", api.ErrLimit
		}
		return fmt.Sprintf("%s: %d holds", s.name, len(s.out.holds)), api.OK
	}
	lots, e := s.released()
	s.paper = api.Paper{Kind: api.PaRelease, Checker: s.log.checker, Runs: s.log.runs, Shop: s.shop.shop, Machine: s.run.machine, Switches: s.run.switches, Holds: s.shop.holds, Lots: lots}
	return "release:" + spread(lots), e
}

// posted has posts stand behind the book.
func (s *step) posted(posts ...api.Post) api.Errno {
	s.name, s.out = s.w["K"], s.book
	s.out.book.Posts = append(slices.Clone(s.book.book.Posts), posts...)
	return right(s.out.book)
}

func (s *step) doBook() (string, api.Errno) {
	e := api.OK
	switch s.row {
	case "share":
		share, e := ledger.Share(s.book.book, s.n("PERIOD"))
		return fmt.Sprintf("share: %d %d", share.Low, share.High), e
	case "pack":
		lots, e := s.released()
		if e == api.OK && !slices.Contains(lots, s.n("LOT")) {
			e = api.ErrState
		}
		if e == api.OK {
			e = s.posted(api.Post{Time: s.n("TIME"), Kind: api.PoPack, Lot: s.n("LOT"), Kilos: span(s.n("LOW"), s.n("HIGH"))})
		}
		return fmt.Sprintf("%s: packed %d", s.name, s.n("LOT")), e
	case "certify":
		most, e := ledger.Most(s.book.book, s.n("LOT"))
		if e == api.OK && most == 0 {
			e = api.ErrSum
		}
		if e == api.OK {
			e = s.posted(api.Post{Time: s.n("TIME"), Kind: api.PoClaim, Lot: s.n("LOT"), Share: most})
		}
		s.paper = api.Paper{Kind: api.PaClaim, Book: s.out.book}
		return fmt.Sprintf("certified: %d", most), e
	case "post":
		e = s.doPost()
	case "charge":
		var posts []api.Post
		posts, e = ledger.Recipe(s.batch.batch, numbers(s.w["KILOS"]), make([]api.Span, len(s.batch.batch.Materials)))
		heaps, _ := ledger.Heaps(s.book.book)
		for i := range posts {
			posts[i].Time = s.n("TIME")
			posts[i].Heap += len(heaps) * map[api.PostKind]int{api.PoCharge: 1}[posts[i].Kind]
		}
		if e == api.OK {
			e = s.posted(posts...)
		}
	}
	return fmt.Sprintf("%s: %d posts", s.name, len(s.out.book.Posts)), e
}

// doPost puts the post of a line behind the book.
func (s *step) doPost() api.Errno {
	const n = ` (?:0|-?[1-9][0-9]{0,9})`
	found := regexp.MustCompile(`^(?:0|-?[1-9][0-9]{0,9}) (in(?:` + n + `){6}|charge(?:` + n + `){3}|pull(?:` + n + `){2}|pack(?:` + n + `){3}|back(?:` + n + `){2}|close|claim(?:` + n + `){2}|return` + n + `)$`).FindStringSubmatch(s.w["POST"])
	if found == nil {
		return api.ErrForm
	}
	fields := strings.Fields(s.w["POST"])
	rest := numbers(strings.Join(fields[2:], " "))
	p := api.Post{Time: numbers(fields[0])[0]}
	switch fields[1] {
	case "in":
		p.Kind, p.Kilos, p.Recycled, p.Loss = api.PoIn, span(rest[0], rest[1]), span(rest[2], rest[3]), span(rest[4], rest[5])
	case "charge":
		p.Kind, p.Heap, p.Kilos = api.PoCharge, rest[0], span(rest[1], rest[2])
	case "pull":
		p.Kind, p.Kilos = api.PoPull, span(rest[0], rest[1])
	case "back":
		p.Kind, p.Kilos = api.PoBack, span(rest[0], rest[1])
	case "close":
		p.Kind = api.PoClose
	case "return":
		p.Kind, p.Lot = api.PoReturn, rest[0]
	default:
		return api.ErrScope
	}
	return s.posted(p)
}

// TestModel: whatever the lines are, a house does what the model does (P10.2).
func TestModel(t *testing.T) {
	counts := map[string]int{}
	for seed := range int64(60) {
		r := newRand(1000 + seed)
		m := newModel()
		h := house.New()
		g := newWriter(r, m)
		for range 220 {
			line := g.line()
			want, wantE := m.does(line)
			got, e := h.Do(line)
			if got != want || e != wantE {
				t.Fatalf("seed %d: %.300q: got %q, error %d; want %q, error %d", seed, line, got, e, want, wantE)
			}
			word, _, _ := strings.Cut(line, " ")
			counts[fmt.Sprintf("%s %t", word, e == api.OK)]++
		}
		sameAsModel(t, h, m)
	}
	for row := range strings.Lines(table + "\nmake") {
		word := strings.Fields(row)[0]
		if counts[word+" true"] < 20 || word != "audit" && counts[word+" false"] < 20 {
			t.Error(word, "was done", counts[word+" true"], "times, and refused", counts[word+" false"])
		}
	}
}

// sameAsModel checks what a house tells of its things and papers.
func sameAsModel(t *testing.T, h *house.House, m *model) {
	t.Helper()
	list(t, "names", h.Names(), m.names)
	for _, name := range m.names {
		b, is := h.Book(name)
		if is != (m.items[name].kind == "book") || !ledger.Same(b, m.items[name].book) {
			t.Error("book", name, b)
		}
	}
	papers := h.Papers()
	equal(t, "papers", len(papers), len(m.papers))
	for i, p := range papers {
		// Lists that are nil and such as are empty are the same, but are not printed apart.
		equal(t, "paper", fmt.Sprint(p), fmt.Sprint(m.papers[i]))
	}
}

// writer writes lines that a house like the model may do, and such as it may not.
type writer struct {
	r     *rand.Rand
	m     *model
	first []string // what makes things to begin with
	clock int
	made  int
}

func newWriter(r *rand.Rand, m *model) *writer {
	first := setUp()
	first = append(first, block("batch", "b2", strings.Replace(batchText, "700 800 200 300", "600 900 100 400", 1)), block("machine", "m2", crashText), block("machine", "m3", apartText),
		block("shop", "s2", strings.Replace(shopText, "200 210", "195 215", 1)), block("line", "c2", lineText+"station ear\n"), block("log", "l2 c2", logText), block("book", "k2", "hold 0 1500 100 200\n"), "run r2 m", "run r3 m3")
	return &writer{r: r, m: m, first: first, clock: 5}
}

func (g *writer) one(words ...string) string { return words[g.r.Intn(len(words))] }

func (g *writer) number(least, most int) string { return decimal(least + g.r.Intn(most-least+1)) }

// wild is a word that mostly is wrong.
func (g *writer) wild() string {
	return g.one("-1", "0", "1", "9999999999", "-9999999999", "1000000001", "10000000000", "01", "x", "b", "k", "\xff", "", "5:0", "end", "make", "1000", "run")
}

// nameOf is the name of a thing of a kind, mostly.
func (g *writer) nameOf(kind string) string {
	var all []string
	for _, name := range g.m.names {
		if g.m.items[name].kind == kind || g.r.Intn(300) == 0 {
			all = append(all, name)
		}
	}
	return g.one(append(all, all...)...)
}

// word is what stands in a place of a line.
func (g *writer) word(place string) string {
	if kind := kindOf[place]; kind != "" {
		return g.nameOf(kind)
	}
	switch place {
	case "NEW":
		g.made++
		return g.one("r", "n"+decimal(g.made), "n"+decimal(g.made), "n"+decimal(g.made))
	case "MODE":
		return g.one("run", "stop", "run", "stop", "day", "rest")
	case "OXIDE":
		return g.one("si", "na", "si", "na", "sand")
	case "MINUTES":
		return g.number(0, 90)
	case "SECTION":
		return g.one("0", "1", "0", "1", "2")
	case "NUMBER":
		return g.one("11", "12", "11", "12", "0", "13")
	case "LOT":
		return g.number(1, 9)
	case "PERIOD":
		return g.number(0, 3)
	case "KILOS":
		return g.one("80 40", "80 60", "100 60", "0 9", "5 0", "0 0", "80", "80 40 0")
	case "BOTH":
		return g.one("80 40 100 60", "100 60 80 60", "100 60 80 40", "80 40 0 0", "80 40", "80 40 1")
	case "SIGHTS":
		return g.one("260:0 310:0", "310:11", "260:12 360:12", "0:0", "260:0 210:0 310:0 410:11", "210")
	case "ENTRY":
		return g.entry()
	case "POST":
		return g.post()
	case "LOW":
		return g.number(0, 100)
	case "HIGH":
		return g.number(50, 800)
	case "FROM":
		return g.number(0, 300)
	case "TO":
		return g.number(200, 900)
	}
	g.clock += g.r.Intn(4) * g.r.Intn(30)
	return decimal(g.clock)
}

func (g *writer) entry() string {
	t := decimal(700 + g.clock)
	return g.one(t+" bottle "+g.number(1, 9)+" "+g.one("11", "12", "0")+" "+g.one("pass", "pass", "out"), t+" sample eye crack found", t+" sample eye crack found", t+" sample eye crack missed", t+" sample ear crack found", t+" bottle 1")
}

func (g *writer) post() string {
	t := decimal(g.clock)
	low := g.r.Intn(60)
	weight := " " + decimal(low) + " " + decimal(low+g.r.Intn(9))
	return g.one(t+" in"+weight+" 500 700 0 100", t+" charge "+g.one("0", "0", "1", "2", "3")+weight, t+" pull"+weight, t+" pull"+weight, t+" back 1 2", t+" close", t+" close", t+" return "+g.number(1, 9), t+" pack 7"+weight, t+" claim 7 100", "1 close", t+" stop")
}

// line is the next line or block.
func (g *writer) line() string {
	if len(g.first) > 0 {
		line := g.first[0]
		g.first = g.first[1:]
		return line
	}
	g.clock += g.r.Intn(3)
	if g.r.Intn(12) == 0 {
		return g.block()
	}
	rows := strings.Split(table, "\n")
	words := strings.Fields(rows[g.r.Intn(len(rows))])
	if g.r.Intn(3) == 0 {
		words = strings.Fields(g.one("post K POST", "pack K L R S TIME LOT LOW HIGH", "certify K TIME LOT", "release L R S"))
	}
	for i := range words[1:] {
		words[i+1] = g.word(words[i+1])
		if g.r.Intn(60) == 0 {
			words[i+1] = g.wild()
		}
	}
	g.mend(words)
	return strings.Join(words, " ") + g.one("", "", "", "\n")
}

// mend has some lines mostly say what may be done.
func (g *writer) mend(words []string) {
	switch {
	case g.r.Intn(4) == 0:
		if len(words) > 1 && g.r.Intn(4) == 0 {
			words[1] = g.wild()
		}
	case words[0] == "pack":
		words[6], words[7], words[8] = g.one("1", "6", "7", "8"), "1", g.number(1, 20)
	case words[0] == "change":
		words[2], words[5], words[8] = "day", g.one("si", "na"), "80 40 100 60"
	case words[0] == "post" && g.r.Intn(3) == 0:
		words[2] = decimal(g.clock) + " close"
	case words[0] == "certify":
		if all := g.m.closed(); len(all) > 0 {
			x := all[g.r.Intn(len(all))]
			words[1], words[3] = x[0], x[1]
		}
	}
}

// closed are the names of books, each with a lot that was packed in a period that is closed, and that is not certified.
func (m *model) closed() [][2]string {
	var all [][2]string
	for _, name := range m.names {
		posts := m.items[name].book.Posts
		for i, p := range posts {
			isClosed := slices.ContainsFunc(posts[i:], func(q api.Post) bool { return q.Kind == api.PoClose })
			isDone := slices.ContainsFunc(posts[i:], func(q api.Post) bool { return q.Kind == api.PoClaim && q.Lot == p.Lot })
			if p.Kind == api.PoPack && isClosed && !isDone {
				all = append(all, [2]string{name, decimal(p.Lot)})
			}
		}
	}
	return all
}

func (g *writer) block() string {
	g.made++
	kind := kinds()[g.r.Intn(6)]
	name := g.one("b", "n"+decimal(g.made), "n"+decimal(g.made), g.wild())
	body := textOf(kind)
	if g.r.Intn(3) == 0 {
		kind, body, name = "log", g.one(logText, "", bookText), name+" "+g.nameOf("line")
	}
	if g.r.Intn(4) == 0 {
		body = strings.Replace(body, g.one("1", "0", " ", "\n", "c"), g.one("2", "end\n", "", " "), 1)
	}
	return block(kind, name, body)
}
