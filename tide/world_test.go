package tide_test

import (
	"math"
	"slices"
	"testing"

	"granary/api"
	"granary/tide"
)

// The limits, said anew: a clock's last tick, and the last time that counts from now on.
const (
	most     = 1 << 40
	relative = 2592000
)

// clock is one at a tick with nothing flushed.
func clock(t *testing.T, now int) *tide.Clock { return begun(t, now, 0, 0) }

func begun(t *testing.T, now int, cut uint64, pending int) *tide.Clock {
	t.Helper()
	c, e := tide.New(now, cut, pending)
	if e != api.OK || c == nil {
		t.Fatalf("New(%d, %d, %d): %v", now, cut, pending, e)
	}
	return c
}

// says holds all that a clock tells.
func says(t *testing.T, c *tide.Clock, now int, cut uint64, pending int) {
	t.Helper()
	if c.Now() != now || c.Cut() != cut || c.Pending() != pending {
		t.Errorf("now %d, cut %d, pending %d; not %d, %d, %d", c.Now(), c.Cut(), c.Pending(), now, cut, pending)
	}
}

func moves(t *testing.T, c *tide.Clock, by int, issued uint64, e api.Errno) {
	t.Helper()
	if got := c.Move(by, issued); got != e {
		t.Errorf("Move(%d, %d): %v, not %v", by, issued, got, e)
	}
}

// row is an entry as First tells it.
type row struct {
	handle api.Handle
	expiry int
}

// first holds what First tells; no row: there is none.
func first(t *testing.T, w *tide.Wheel, rows ...row) {
	t.Helper()
	var want row
	if len(rows) > 0 {
		want = rows[0]
	}
	h, e, ok := w.First()
	if (row{h, e}) != want || ok != (len(rows) > 0) {
		t.Errorf("First: %d, %d, %v; not %v", h, e, ok, rows)
	}
}

func due(t *testing.T, w *tide.Wheel, now, most int, want ...api.Handle) {
	t.Helper()
	if got := w.Due(now, most); !slices.Equal(got, want) {
		t.Errorf("Due(%d, %d): %v, not %v", now, most, got, want)
	}
}

// holds holds a wheel against its entries in their order, by every call that tells something.
func holds(t *testing.T, w *tide.Wheel, rows ...row) {
	t.Helper()
	if w.Len() != len(rows) {
		t.Errorf("Len is %d, not %d", w.Len(), len(rows))
	}
	first(t, w, rows...)
	var want []api.Handle
	for _, r := range rows {
		want = append(want, r.handle)
	}
	due(t, w, math.MaxInt, math.MaxInt, want...)
}

func takes(t *testing.T, w *tide.Wheel, h api.Handle, had bool) {
	t.Helper()
	if got := w.Take(h); got != had {
		t.Errorf("Take(%d): %v", h, got)
	}
}
