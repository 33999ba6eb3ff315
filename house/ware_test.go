package house_test

import (
	"strings"
	"testing"

	"cullet/api"
)

// TestSafe: a machine that is safe gets a paper; of another one the broken guards are counted (P10.2).
func TestSafe(t *testing.T) {
	h := works(t, block("machine", "crash", crashText), block("machine", "close", closeText), block("machine", "apart", apartText))
	answers(t, h, "safe m", "safe [0]")
	answers(t, h, "safe crash", "not safe: 2")
	answers(t, h, "safe close", "not safe: 0")
	equal(t, "papers", len(h.Papers()), 1)
	answers(t, h, "safe apart", "safe [1]")
	answers(t, h, "safe m", "safe [2]")
	p := lastPaper(t, h)
	equal(t, "paper", p, api.Paper{Kind: api.PaSafe, Machine: p.Machine})
	equal(t, "cycle and sections", append(p.Machine.Offsets, p.Machine.Cycle), []int{0, 50, 100})
}

// TestRun: runs are of machines that are safe, without switches at first (P10.2).
func TestRun(t *testing.T) {
	h := works(t, block("machine", "crash", crashText), block("machine", "close", closeText))
	refuses(t, h, "run x crash", api.ErrState)
	refuses(t, h, "run x close", api.ErrState)
	answers(t, h, "switch r 0 stop 4", "r: 1 switches")
	answers(t, h, "run x m", "run x")
	answers(t, h, "switch x 0 stop 4", "x: 1 switches")
	refuses(t, h, "run r m", api.ErrTwice)
	refuses(t, h, "run m m", api.ErrTwice)
	refuses(t, h, "run y r", api.ErrNone)
	refuses(t, h, "run y y", api.ErrNone)
}

// TestSwitch: switches stand behind those that are there, if they are allowed there (P10.2).
func TestSwitch(t *testing.T) {
	h := works(t)
	answers(t, h, "switch r 0 stop 54", "r: 1 switches")
	answers(t, h, "switch r 1 stop 60", "r: 2 switches")
	for line, want := range map[string]api.Errno{
		"switch r 0 night 400":       api.ErrNone,
		"switch r 0 0 400":           api.ErrNone,
		"switch r 2 run 400":         api.ErrNone,
		"switch r -1 run 400":        api.ErrNone,
		"switch r 0 run -1":          api.ErrArg,
		"switch r 0 run 1000000001":  api.ErrArg,
		"switch r 0 run 59":          api.ErrState,
		"switch r 0 run 153":         api.ErrState,
		"switch r -1 night -1":       api.ErrNone,
		"switch r 0 run 9999999999":  api.ErrArg,
		"switch r 0 run -9999999999": api.ErrArg,
	} {
		refuses(t, h, line, want)
	}
	answers(t, h, "switch r 0 run 154", "r: 3 switches")
	// arm and plug are out and home together, so that a switch at a tick at which they move would have them jump
	jump := armText + "mode still -1 0\nmotion\nmotion\n"
	h = with(t, block("machine", "m", jump), "run r m")
	refuses(t, h, "switch r 0 still 30", api.ErrClash)
	answers(t, h, "switch r 0 still 90", "r: 1 switches")
	answers(t, h, "soonest r 0 run 0", "soonest: 190")
}

// TestManySwitches: a run has MaxSwitches of them at most (P10.2).
func TestManySwitches(t *testing.T) {
	h := with(t, block("machine", "m", "cycle 1 0\noffsets 0\nmode run 0 0\n"), "run r m")
	for i := range api.MaxSwitches {
		answers(t, h, "switch r 0 run "+decimal(i), "r: "+decimal(i+1)+" switches")
	}
	refuses(t, h, "switch r 0 run 500", api.ErrLimit)
	refuses(t, h, "soonest r 0 run 500", api.ErrLimit)
}

func TestSoonest(t *testing.T) {
	h := works(t, "switch r 0 stop 54")
	answers(t, h, "soonest r 0 run 0", "soonest: 154")
	answers(t, h, "soonest r 0 run 300", "soonest: 300")
	answers(t, h, "soonest r 1 stop 0", "soonest: 54")
	answers(t, h, "soonest r 1 stop 1000000000", "soonest: 1000000000")
	refuses(t, h, "soonest r 2 run 300", api.ErrNone)
	refuses(t, h, "soonest r 0 night 300", api.ErrNone)
	refuses(t, h, "soonest r 0 run -1", api.ErrArg)
	// asking does not switch
	answers(t, h, "switch r 0 run 154", "r: 2 switches")
	apart := armText + "mode out -1 0\nmotion 0:7\nmotion 0:7\nmode other -1 0\nmotion 0:8\nmotion\n"
	h = with(t, block("machine", "m", apart), "run r m", "switch r 0 run 0")
	answers(t, h, "soonest r 0 other 0", "soonest: never")
}

// TestMade: all bottles are counted, and those that are kept (P10.2).
func TestMade(t *testing.T) {
	h := works(t)
	answers(t, h, "made r s 0 110", "made: 3 kept 3")
	answers(t, h, "made r s 6 54", "made: 0 kept 0")
	answers(t, h, "made r s 5 5", "made: 1 kept 1")
	// behind a switch to run two cycles are not kept
	for _, line := range []string{"switch r 0 stop 90", "switch r 0 run 290"} {
		if _, e := h.Do(line); e != api.OK {
			t.Fatal(line, e)
		}
	}
	answers(t, h, "made r s 0 600", "made: 10 kept 8")
	for line, want := range map[string]api.Errno{
		"made r s -1 5":            api.ErrArg,
		"made r s 6 5":             api.ErrArg,
		"made r s 0 10001":         api.ErrArg,
		"made r s 0 1000000001":    api.ErrArg,
		"made r s 999999999 99999": api.ErrArg,
	} {
		refuses(t, h, line, want)
	}
}

func TestWorn(t *testing.T) {
	h := works(t)
	answers(t, h, "worn r s 204", "worn:")
	answers(t, h, "worn r s 205", "worn: 11")
	answers(t, h, "worn r s 9999", "worn: 11")
	refuses(t, h, "worn r s -1", api.ErrArg)
	refuses(t, h, "worn r s 10001", api.ErrArg)
	more := strings.Replace(shopText, "mould 12 100", "mould 12 1", 1)
	h = works(t, block("shop", "t", more))
	answers(t, h, "worn r t 205", "worn: 11 12")
	answers(t, h, "worn r t 200", "worn: 12")
}

func TestTrace(t *testing.T) {
	h := works(t)
	answers(t, h, "trace r s 260 0", "trace: 1.0.55")
	answers(t, h, "trace r s 260 12", "trace: 1.0.55")
	answers(t, h, "trace r s 260 11", "trace:")
	answers(t, h, "trace r s 0 0", "trace:")
	answers(t, h, "trace r s 260 999", "trace:")
	refuses(t, h, "trace r s 260 1000", api.ErrArg)
	refuses(t, h, "trace r s 260 -1", api.ErrArg)
	refuses(t, h, "trace r s -1 0", api.ErrArg)
	// two cavities, and delays of two cycles
	wide := "shop 2 100 200 0\nmould 11 3\nmould 12 100\nmount 11 0 0 0 1000\nmount 12 0 1 0 1000\n"
	answers(t, works(t, block("shop", "t", wide)), "trace r t 206 0", "trace: 0.0.105 0.1.105")
	late := "shop 1 0 100000 0\nmould 11 3\n"
	refuses(t, works(t, block("shop", "t", late)), "trace r t 206 0", api.ErrScope)
	away := "shop 1 0 0 0\nmould 11 3\nmount 11 2 0 0 1000\n"
	h = works(t, block("shop", "t", away))
	for _, line := range []string{"trace r t 206 0", "made r t 0 0", "worn r t 0", "culprits r t 206:0"} {
		refuses(t, h, line, api.ErrNone)
	}
}

func TestCulprits(t *testing.T) {
	h := works(t)
	answers(t, h, "culprits r s 260:0 310:0", "culprits: 11 12; sure: 11 12")
	answers(t, h, "culprits r s 310:0", "culprits: 11; sure: 11")
	answers(t, h, "culprits r s 260:12 260:0", "culprits: 12; sure: 12")
	// either of both moulds explains this
	both := "shop 2 200 210 0\nmould 21 3\nmould 22 100\nmount 21 0 0 0 1000\nmount 22 0 1 0 1000\n"
	answers(t, works(t, block("shop", "t", both)), "culprits r t 210:0", "culprits: 21; sure:")
	for line, want := range map[string]api.Errno{
		"culprits r s 0:0":                           api.ErrNone,
		"culprits r s 260:0 260:11":                  api.ErrNone,
		"culprits r s 260:0 -1:0":                    api.ErrArg,
		"culprits r s 260:-1":                        api.ErrArg,
		"culprits r s 260:1000":                      api.ErrArg,
		"culprits r s" + strings.Repeat(" -1:0", 25): api.ErrLimit,
		"culprits r s" + strings.Repeat(" -1:0", 24): api.ErrArg,
		"culprits r s":                               api.ErrForm,
		"culprits r s 260":                           api.ErrForm,
		"culprits r s 260:":                          api.ErrForm,
		"culprits r s :0":                            api.ErrForm,
		"culprits r s 260:0:0":                       api.ErrForm,
		"culprits r s 260:00":                        api.ErrForm,
		"culprits r s 260 :0":                        api.ErrForm,
		"culprits r s 260:0 x":                       api.ErrForm,
		"culprits r s 260:0 ":                        api.ErrForm,
		"culprits r s 10000000000:0":                 api.ErrForm,
	} {
		refuses(t, h, line, want)
	}
}
