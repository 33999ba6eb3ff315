package batch

import (
	"slices"
	"strconv"
	"strings"

	"cullet/api"
)

// Print returns the text of a batch.
func Print(b api.Batch) (string, api.Errno) {
	if e := Check(b); e != api.OK {
		return "", e
	}
	lines := [][]string{
		append([]string{"oxides"}, b.Oxides...),
		{"wanted", strconv.Itoa(b.Wanted)},
		append([]string{"redox"}, spanWords(b.Redox)...),
		append([]string{"shares"}, spanWords(b.Shares...)...),
	}
	for _, m := range b.Materials {
		words := append([]string{"material", m.Name}, numberWords(m.Price, m.Redox, m.Least, m.Most, m.Step)...)
		lines = append(lines, append(words, spanWords(m.Content...)...))
	}
	for _, p := range b.Properties {
		words := append([]string{"property", p.Name}, spanWords(p.Target)...)
		lines = append(lines, append(words, numberWords(p.Coefs...)...))
	}
	text := ""
	for _, words := range lines {
		text += strings.Join(words, " ") + "\n"
	}
	if len(text) > api.MaxText {
		return "", api.ErrLimit
	}
	return text, api.OK
}

func numberWords(numbers ...int) []string {
	var words []string
	for _, n := range numbers {
		words = append(words, strconv.Itoa(n))
	}
	return words
}

func spanWords(spans ...api.Span) []string {
	var words []string
	for _, s := range spans {
		words = append(words, numberWords(s.Low, s.High)...)
	}
	return words
}

// Parse returns the batch of a text, or the number of the line that is wrong, and its error.
func Parse(text string) (b api.Batch, line int, e api.Errno) {
	if len(text) > api.MaxText {
		return api.Batch{}, 0, api.ErrLimit
	}
	var r reader
	defer func() {
		if recover() != nil {
			b, line, e = api.Batch{}, r.line, api.ErrForm
		}
	}()
	kinds := r.kinds()
	for s := range strings.Lines(text) {
		r.line++
		words := strings.Split(strings.TrimSuffix(s, "\n"), " ")
		read := kinds[words[0]]
		need(read != nil && !slices.Contains(words, ""))
		read(words[1:])
	}
	if r.stage < atMaterials {
		return api.Batch{}, 0, api.ErrForm
	}
	if e := Check(r.batch); e != api.OK {
		return api.Batch{}, 0, e
	}
	return r.batch, 0, api.OK
}

// The stages of a text: which line comes next.
const (
	atOxides = iota
	atWanted
	atRedox
	atShares
	atMaterials
	atProperties
)

// reader gathers a batch, line by line.
type reader struct {
	batch       api.Batch
	line, stage int
}

// kinds returns, by the first word of a line, what reads the other ones. What is not of the form goes wrong in them.
func (r *reader) kinds() map[string]func(words []string) {
	return map[string]func(words []string){
		"oxides":   r.oxides,
		"wanted":   r.wanted,
		"redox":    r.redox,
		"shares":   r.shares,
		"material": r.material,
		"property": r.property,
	}
}

// malformed is what a line that is not of the form goes wrong with.
type malformed struct{}

func need(is bool) {
	if !is {
		panic(malformed{})
	}
}

// pass goes from a stage to the next one.
func (r *reader) pass(stage int) {
	need(r.stage == stage)
	r.stage++
}

func (r *reader) oxides(words []string) {
	r.pass(atOxides)
	r.batch.Oxides = words
}

func (r *reader) wanted(words []string) {
	r.pass(atWanted)
	need(len(words) == 1)
	r.batch.Wanted = number(words[0])
}

func (r *reader) redox(words []string) {
	r.pass(atRedox)
	need(len(words) == 2)
	r.batch.Redox = spans(words)[0]
}

func (r *reader) shares(words []string) {
	r.pass(atShares)
	r.batch.Shares = spans(words)
}

func (r *reader) material(words []string) {
	need(r.stage == atMaterials && len(words) >= 6)
	n := numbers(words[1:6])
	m := api.Material{Name: words[0], Price: n[0], Redox: n[1], Least: n[2], Most: n[3], Step: n[4], Content: spans(words[6:])}
	r.batch.Materials = append(r.batch.Materials, m)
}

func (r *reader) property(words []string) {
	need(r.stage >= atMaterials && len(words) >= 3)
	r.stage = atProperties
	p := api.Property{Name: words[0], Target: spans(words[1:3])[0], Coefs: numbers(words[3:])}
	r.batch.Properties = append(r.batch.Properties, p)
}

// number returns the number of a word. Whatever is written otherwise than it would be printed is none.
func number(word string) int {
	n, err := strconv.Atoi(word)
	need(err == nil && strconv.Itoa(n) == word && between(n, -999999, 999999))
	return n
}

func numbers(words []string) []int {
	var all []int
	for _, w := range words {
		all = append(all, number(w))
	}
	return all
}

func spans(words []string) []api.Span {
	need(len(words)%2 == 0)
	var all []api.Span
	for pair := range slices.Chunk(numbers(words), 2) {
		all = append(all, api.Span{Low: pair[0], High: pair[1]})
	}
	return all
}
