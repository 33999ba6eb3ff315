package house

import (
	"testing"

	"cullet/api"
)

// TestAuditBad: an audit tells the first paper that is not good, which no line can bring into a house (P10.2, P10.3).
func TestAuditBad(t *testing.T) {
	h := New()
	good := api.Paper{Kind: api.PaClaim}
	for _, x := range []struct {
		paper api.Paper
		want  string
	}{{good, "audit: good 1"}, {good, "audit: good 2"}, {api.Paper{Kind: api.PaSafe}, "audit: bad 2"}, {good, "audit: bad 2"}, {api.Paper{}, "audit: bad 2"}} {
		h.stock.papers = append(h.stock.papers, x.paper)
		if got, e := h.Do("audit"); got != x.want || e != api.OK {
			t.Errorf("got %q, error %d; want %q", got, e, x.want)
		}
	}
}
