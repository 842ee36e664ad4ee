package printer

import (
	"strings"
	"testing"

	"quittance/api"
)

// TestFitted asks within, since no product that may be has a text that is too long.
func TestFitted(t *testing.T) {
	for _, n := range []int{0, 1, api.MaxText - 1, api.MaxText} {
		text := strings.Repeat("a", n)
		if s, e := fitted(text); s != text || e != api.OK {
			t.Errorf("P10.1: of %d bytes: %d, error %d; want all, 0", n, len(s), e)
		}
	}
	for _, n := range []int{api.MaxText + 1, api.MaxText + 2, 1 << 20} {
		if s, e := fitted(strings.Repeat("a", n)); s != "" || e != api.ErrRange {
			t.Errorf("P10.1: of %d bytes: %d, error %d; want none, 3", n, len(s), e)
		}
	}
}
