package batch_test

import (
	"math"
	"strings"
	"testing"

	"cullet/api"
	"cullet/batch"
)

// wrongs are batches that may not be; each change makes just the one error with which it stands.
var wrongs = []struct {
	name   string
	change func(b *api.Batch)
	want   api.Errno
}{
	{"too many oxides", func(b *api.Batch) { b.Oxides = make([]string, api.MaxOxides+1) }, api.ErrLimit},
	{"no oxide", func(b *api.Batch) { b.Oxides = []string{} }, api.ErrArg},
	{"an oxide without a name", func(b *api.Batch) { b.Oxides[0] = "" }, api.ErrName},
	{"an oxide with a long name", func(b *api.Batch) { b.Oxides[0] = strings.Repeat("a", api.MaxName+1) }, api.ErrName},
	{"an oxide that begins with a digit", func(b *api.Batch) { b.Oxides[1] = "2na" }, api.ErrName},
	{"an oxide that begins with -", func(b *api.Batch) { b.Oxides[1] = "-na" }, api.ErrName},
	{"an oxide with a great letter", func(b *api.Batch) { b.Oxides[1] = "nA" }, api.ErrName},
	{"an oxide with a blank", func(b *api.Batch) { b.Oxides[1] = "n a" }, api.ErrName},
	{"an oxide with other bytes", func(b *api.Batch) { b.Oxides[1] = "n\xc3\xa4" }, api.ErrName},
	{"an oxide twice", func(b *api.Batch) { b.Oxides[1] = "si" }, api.ErrTwice},
	{"too many materials", func(b *api.Batch) { b.Materials = make([]api.Material, api.MaxMaterials+1) }, api.ErrLimit},
	{"no material", func(b *api.Batch) { b.Materials = nil }, api.ErrArg},
	{"a material without a name", func(b *api.Batch) { b.Materials[1].Name = "" }, api.ErrName},
	{"a material twice", func(b *api.Batch) { b.Materials[1].Name = "sand" }, api.ErrTwice},
	{"a price below 0", func(b *api.Batch) { b.Materials[0].Price = -1 }, api.ErrArg},
	{"a price above its limit", func(b *api.Batch) { b.Materials[0].Price = api.MaxPrice + 1 }, api.ErrArg},
	{"a redox number below its limit", func(b *api.Batch) { b.Materials[0].Redox = -api.MaxRedox - 1 }, api.ErrArg},
	{"a redox number above its limit", func(b *api.Batch) { b.Materials[0].Redox = api.MaxRedox + 1 }, api.ErrArg},
	{"a Least below 0", func(b *api.Batch) { b.Materials[0].Least = -1 }, api.ErrArg},
	{"a Least above its limit", func(b *api.Batch) { b.Materials[0].Least = api.MaxKilos + 1 }, api.ErrArg},
	{"a Most below Least", func(b *api.Batch) { b.Materials[0].Least = 201 }, api.ErrArg},
	{"a Most above its limit", func(b *api.Batch) { b.Materials[0].Most = api.MaxKilos + 1 }, api.ErrArg},
	{"a step of 0", func(b *api.Batch) { b.Materials[0].Step = 0 }, api.ErrArg},
	{"a step above its limit", func(b *api.Batch) { b.Materials[0].Step = api.MaxKilos + 1 }, api.ErrArg},
	{"too little content", func(b *api.Batch) { b.Materials[0].Content = b.Materials[0].Content[:1] }, api.ErrArg},
	{"too much content", func(b *api.Batch) { b.Materials[0].Content = append(b.Materials[0].Content, span(0, 0)) }, api.ErrArg},
	{"content below 0", func(b *api.Batch) { b.Materials[0].Content[1] = span(-1, 0) }, api.ErrArg},
	{"content that is empty", func(b *api.Batch) { b.Materials[0].Content[1] = span(2, 1) }, api.ErrArg},
	{"content above 1000", func(b *api.Batch) { b.Materials[0].Content[1] = span(0, 1001) }, api.ErrArg},
	{"content that is surely too much", func(b *api.Batch) { b.Materials[0].Content[1] = span(21, 1000) }, api.ErrSum},
	{"too few shares", func(b *api.Batch) { b.Shares = b.Shares[:1] }, api.ErrArg},
	{"too many shares", func(b *api.Batch) { b.Shares = append(b.Shares, span(0, 1)) }, api.ErrArg},
	{"a share below 0", func(b *api.Batch) { b.Shares[1].Low = -1 }, api.ErrArg},
	{"a share that is empty", func(b *api.Batch) { b.Shares[1].Low = 301 }, api.ErrArg},
	{"a share above 1000", func(b *api.Batch) { b.Shares[1].High = 1001 }, api.ErrArg},
	{"too many properties", func(b *api.Batch) { b.Properties = make([]api.Property, api.MaxProperties+1) }, api.ErrLimit},
	{"a property without a name", func(b *api.Batch) { b.Properties[1].Name = "" }, api.ErrName},
	{"a property twice", func(b *api.Batch) { b.Properties[1].Name = "melt" }, api.ErrTwice},
	{"too few coefficients", func(b *api.Batch) { b.Properties[1].Coefs = b.Properties[1].Coefs[:1] }, api.ErrArg},
	{"too many coefficients", func(b *api.Batch) { b.Properties[1].Coefs = []int{1, 2, 3} }, api.ErrArg},
	{"a coefficient below its limit", func(b *api.Batch) { b.Properties[1].Coefs[0] = -api.MaxCoef - 1 }, api.ErrArg},
	{"a coefficient above its limit", func(b *api.Batch) { b.Properties[1].Coefs[1] = api.MaxCoef + 1 }, api.ErrArg},
	{"a target below its limit", func(b *api.Batch) { b.Properties[1].Target.Low = -api.MaxCoef - 1 }, api.ErrArg},
	{"a target that is empty", func(b *api.Batch) { b.Properties[0].Target = span(3, 2) }, api.ErrArg},
	{"a target above its limit", func(b *api.Batch) { b.Properties[1].Target.High = api.MaxCoef + 1 }, api.ErrArg},
	{"a redox target below its limit", func(b *api.Batch) { b.Redox.Low = -api.MaxCoef - 1 }, api.ErrArg},
	{"a redox target that is empty", func(b *api.Batch) { b.Redox = span(1, 0) }, api.ErrArg},
	{"a redox target above its limit", func(b *api.Batch) { b.Redox.High = api.MaxCoef + 1 }, api.ErrArg},
	{"nothing wanted", func(b *api.Batch) { b.Wanted = 0 }, api.ErrArg},
	{"too much wanted", func(b *api.Batch) { b.Wanted = api.MaxKilos + 1 }, api.ErrArg},
	{"the least number", func(b *api.Batch) { b.Wanted = math.MinInt }, api.ErrArg},
	{"the greatest number", func(b *api.Batch) { b.Materials[0].Step = math.MaxInt }, api.ErrArg},
}

func TestCheckErrors(t *testing.T) {
	for _, x := range wrongs {
		b := full()
		x.change(&b)
		equal(t, x.name, batch.Check(b), x.want)
	}
}

// TestWrongBatch: every function returns Check's error before any other one, and nothing else.
func TestWrongBatch(t *testing.T) {
	for _, x := range wrongs {
		b := full()
		x.change(&b)
		if got := answers(b, []int{-1}, -1, api.Proof{Scale: -1}); !onlyError(got, x.want) {
			t.Errorf("%s: %v", x.name, got)
		}
	}
}

func TestCheckOrder(t *testing.T) {
	for _, x := range []struct {
		name   string
		change func(b *api.Batch)
		want   api.Errno
	}{
		{"oxides before materials", func(b *api.Batch) { b.Oxides[1] = "si"; b.Materials = nil }, api.ErrTwice},
		{"a name before one that stands twice", func(b *api.Batch) { b.Oxides = []string{"A", "A"} }, api.ErrName},
		{"the first oxide decides", func(b *api.Batch) { b.Oxides = []string{"si", "si", "A"} }, api.ErrTwice},
		{"how many materials before what they are", func(b *api.Batch) { b.Materials = make([]api.Material, 13); b.Shares = nil }, api.ErrLimit},
		{"the first material decides", func(b *api.Batch) { b.Materials[0].Price = -1; b.Materials[1].Name = "" }, api.ErrArg},
		{"twice before numbers", func(b *api.Batch) { b.Materials[1].Name = "sand"; b.Materials[1].Step = 0 }, api.ErrTwice},
		{"content before its sum", func(b *api.Batch) { b.Materials[0].Content = []api.Span{span(1000, 1000), span(1, 1001)} }, api.ErrArg},
		{"the sum before shares", func(b *api.Batch) { b.Materials[1].Content[0] = span(999, 999); b.Shares = nil }, api.ErrSum},
		{"shares before properties", func(b *api.Batch) { b.Shares = nil; b.Properties[0].Name = "" }, api.ErrArg},
		{"properties before redox", func(b *api.Batch) { b.Properties[0].Name = ""; b.Redox = span(1, 0) }, api.ErrName},
		{"the first property decides", func(b *api.Batch) { b.Properties[0].Coefs = nil; b.Properties[1].Name = "melt" }, api.ErrArg},
	} {
		b := full()
		x.change(&b)
		equal(t, x.name, batch.Check(b), x.want)
	}
}

func TestCheckLimits(t *testing.T) {
	b := api.Batch{Redox: span(-api.MaxCoef, api.MaxCoef), Wanted: api.MaxKilos}
	for i := range api.MaxOxides {
		b.Oxides = append(b.Oxides, strings.Repeat("z", i)+"a-09")
		b.Shares = append(b.Shares, span(0, 1000))
	}
	b.Oxides[0] = strings.Repeat("a", api.MaxName)
	content := make([]api.Span, api.MaxOxides)
	for i := range content {
		content[i] = span(0, 1000)
	}
	content[3] = span(1000, 1000)
	for i := range api.MaxMaterials {
		m := api.Material{Name: b.Oxides[i], Price: api.MaxPrice, Redox: -api.MaxRedox, Least: api.MaxKilos, Most: api.MaxKilos, Step: api.MaxKilos, Content: content}
		b.Materials = append(b.Materials, m)
	}
	b.Materials[1].Least, b.Materials[1].Step, b.Materials[1].Redox = 0, 1, api.MaxRedox
	for i := range api.MaxProperties {
		p := api.Property{Name: b.Oxides[i], Coefs: make([]int, api.MaxOxides), Target: span(-api.MaxCoef, api.MaxCoef)}
		p.Coefs[0], p.Coefs[1] = -api.MaxCoef, api.MaxCoef
		b.Properties = append(b.Properties, p)
	}
	equal(t, "all at its limit", batch.Check(b), api.OK)
	b.Wanted, b.Redox = 1, span(0, 0)
	equal(t, "the least wanted", batch.Check(b), api.OK)
	equal(t, "the chapter's", batch.Check(mix()), api.OK)
	b.Oxides, b.Materials = []string{strings.Repeat("q", api.MaxName)}, []api.Material{{Name: "a", Step: 1, Content: []api.Span{{}}}}
	b.Shares, b.Properties = []api.Span{{}}, nil
	equal(t, "all as little as may be", batch.Check(b), api.OK)
}
