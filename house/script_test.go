package house_test

import (
	"slices"
	"strings"
	"testing"

	"cullet/api"
	"cullet/house"
)

// runs checks the answers of a script, and how many papers it has.
func runs(t *testing.T, script string, papers int, want ...string) {
	t.Helper()
	got, all, e := house.Run(script)
	if e != api.OK || !slices.Equal(got, want) || len(all) != papers {
		t.Errorf("%.300q: got %q, %d papers, error %d; want %q, %d papers", script, got, len(all), e, want, papers)
	}
}

// runFails checks that a script has this error, and nothing else.
func runFails(t *testing.T, script string, want api.Errno) {
	t.Helper()
	answers, papers, e := house.Run(script)
	if e != want || len(answers) != 0 || len(papers) != 0 {
		t.Errorf("%.300q: got %q, %d papers, error %d; want error %d", script, answers, len(papers), e, want)
	}
}

// TestRunExample: the chapter's examples as scripts (P10.2).
func TestRunExample(t *testing.T) {
	runs(t, "make batch b\n"+batchText+"end\nbest b\nglass b 80 60\nmake book k\nhold 0 500 100 100\nend\ncharge k b 5 80 40\nshare k 0\npost k 6 pull 90 120\npost k 7 pull 200 200\naudit\n", 1,
		"made b", "best: 80 40 cost 240 [0]", "glass: si:692-701 na:299-308", "made k", "k: 4 posts", "share: 0 0", "k: 5 posts", "error 10", "audit: good 1")
}

// TestRunLines: a script is cut into lines and blocks, of which some are passed over (P10.2).
func TestRunLines(t *testing.T) {
	book := block("book", "k", "hold 0 5 0 5\n")
	for script, want := range map[string][]string{
		"":                             nil,
		"\n":                           nil,
		"\n\n\n":                       nil,
		"#":                            nil,
		"# audit\n#\n##\n#make\n":      nil,
		"audit":                        {"audit: good 0"},
		"audit\n":                      {"audit: good 0"},
		"\n\naudit\n\n\naudit\n#audit": {"audit: good 0", "audit: good 0"},
		" ":                            {"error 4"},
		" #":                           {"error 4"},
		"\r\n":                         {"error 4"},
		"audit \naudit\r\n audit":      {"error 4", "error 4", "error 4"},
		"end\naudit\nend":              {"error 4", "audit: good 0", "error 4"},
		"making\nmakes x\nmake-\nMake": {"error 4", "error 4", "error 4", "error 4"},
		book:                           {"made k"},
		book + "\n":                    {"made k"},
		book + "\n\n" + book + "\n#":   {"made k", "error 6"},
		"share k 0\n" + book + "\nshare k 0\nshare k 1": {"error 7", "made k", "share: 0 1000", "error 7"},
		"make\nend": {"error 4"}, "make\naudit\n#\nend\naudit": {"error 4", "audit: good 0"},
		"make \nend": {"error 4"}, "make x\n\nend\n": {"error 4"}, "make book\nend": {"error 4"},
		"make  book x\nhold 0 5 0 5\nend": {"error 4"},
		// nothing is passed over in a block, and only the line end ends it
		"make book x\n#\nhold 0 5 0 5\nend":                            {"error 4"},
		"make book x\n\nhold 0 5 0 5\nend":                             {"error 4"},
		"make book x\nhold 0 5 0 5\n\nend":                             {"error 4"},
		"make book x\nmake book y\nend\naudit":                         {"error 4", "audit: good 0"},
		"make book x\nhold 0 5 0 5\nend \naudit\nend\naudit":           {"error 4", "audit: good 0"},
		"make book x\nhold 0 5 0 5\nend\nend\naudit":                   {"made x", "error 4", "audit: good 0"},
		"make line c\n" + lineText + "end\nmake log l c\nend\njudge l": {"made c", "made l", "clear:; blocked:; open:"},
	} {
		runs(t, script, 0, want...)
	}
}

// TestRunEnds: a block must have its end (P10.2).
func TestRunEnds(t *testing.T) {
	good := block("book", "k", "hold 0 5 0 5\n")
	for _, script := range []string{"make", "make\n", "make ", "make x", "make book k\nhold 0 5 0 5\n", "make book k\nhold 0 5 0 5\nend ", "make\n end", "audit\nmake\nEnd", good + "\nmake x\naudit", "make book k\n#end", "make x\nend\nmake x\nends", "make x\nmake y\nend\nmake z"} {
		runFails(t, script, api.ErrForm)
	}
}

// TestRunLimits: a script has MaxText bytes and MaxLines lines at most (P10.2).
func TestRunLimits(t *testing.T) {
	runs(t, strings.Repeat("\n", api.MaxLines), 0)
	runFails(t, strings.Repeat("\n", api.MaxLines+1), api.ErrLimit)
	runFails(t, strings.Repeat("\n", api.MaxLines)+"#", api.ErrLimit)
	runs(t, strings.Repeat("#\n", api.MaxLines-1)+"audit", 0, "audit: good 0")
	runFails(t, strings.Repeat("#\n", api.MaxLines)+"audit", api.ErrLimit)
	runFails(t, strings.Repeat("make\n", api.MaxLines), api.ErrForm)
	runFails(t, strings.Repeat("make\n", api.MaxLines+1), api.ErrLimit)
	runs(t, "make\n"+strings.Repeat("x\n", api.MaxLines-2)+"end", 0, "error 4")
	runFails(t, "make\n"+strings.Repeat("x\n", api.MaxLines-1)+"end", api.ErrLimit)
	runs(t, strings.Repeat("audit\n", api.MaxLines), 0, slices.Repeat([]string{"audit: good 0"}, api.MaxLines)...)

	runs(t, strings.Repeat("#", api.MaxText), 0)
	runFails(t, strings.Repeat("#", api.MaxText+1), api.ErrLimit)
	runs(t, strings.Repeat("x", api.MaxText-1)+"\n", 0, "error 4")
	runFails(t, strings.Repeat("x", api.MaxText)+"\n", api.ErrLimit)
	runFails(t, "make\n"+strings.Repeat("x", api.MaxText), api.ErrLimit)
}

// TestRunAsDo: a script does what its lines and blocks do one by one in a house (P10.2, P10.7).
func TestRunAsDo(t *testing.T) {
	all := slices.Concat(setUp(), []string{"best b", "none", "safe m", "switch r 0 stop 4", "switch r 0 run 5", "made r s 0 300", "release l r s"}, lines7(), []string{"certify k 6 7", "run r m", "share k 9", "audit"})
	h := house.New()
	var want []string
	for _, line := range all {
		answer, e := h.Do(line)
		if e != api.OK {
			answer = "error " + decimal(int(e))
		}
		want = append(want, answer)
	}
	equal(t, "errors", strings.Count(script(want...), "error"), 5)
	got, papers, e := house.Run(script(all...))
	list(t, "answers", got, want)
	equal(t, "error", e, api.OK)
	equal(t, "papers", papers, h.Papers())
}
