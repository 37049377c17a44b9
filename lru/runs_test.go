package lru_test

import (
	"testing"

	"granary/api"
	"granary/lru"
)

// The rows of the chapter's table 'Runs', each in a world of its own. Shares are 34 and 34.

func TestRunThree(t *testing.T) {
	w := begun(t, 34, 34)
	row := w.entered(0, 3)
	w.lengths(0, 3, 0, 0)
	w.balance(0, 9, 2)
	w.holds(api.Hot, row[2])
	w.holds(api.Warm)
	w.holds(api.Cold, row[1], row[0])
}

func TestRunOne(t *testing.T) {
	w := begun(t, 34, 34)
	row := w.entered(0, 1)
	w.balance(0, 9, 1)
	w.holds(api.Cold, row...)
	w.lengths(0, 0, 0, 1)
}

func TestRunHitInHot(t *testing.T) {
	w := begun(t, 34, 34)
	row := w.entered(0, 3)
	w.hit(row[0])
	w.active(row, row[0])
	w.balance(0, 1, 1)
	w.holds(api.Hot, row[2], row[1])
	w.holds(api.Warm, row[0])
	w.active(row)
}

func TestRunPicks(t *testing.T) {
	w := begun(t, 34, 34)
	row := w.row(0, api.Cold, 2)
	b, a := row[0], row[1]
	w.pick(0, 0, 5, nil, a, false, 2)
	w.pick(0, 0, 1, in(b), a, false, 1)
	w.pick(0, 0, 2, in(b), b, true, 2)
	w.hit(a)
	w.pick(0, 0, 5, nil, b, false, 2)
	w.hit(b)
	w.pick(0, 0, 5, nil, a, false, 2)
}

func TestRunHitInCold(t *testing.T) {
	w := begun(t, 34, 34)
	cold, hot := w.row(0, api.Cold, 2), w.row(0, api.Hot, 1)
	b, a := cold[0], cold[1]
	w.hit(a)
	w.balance(0, 9, 1)
	w.holds(api.Hot, hot...)
	w.holds(api.Warm, a)
	w.holds(api.Cold, b)
	w.active(append(cold, hot...))
}

func TestRunHitInWarm(t *testing.T) {
	w := begun(t, 34, 34)
	row := w.row(0, api.Warm, 2)
	w.hit(row[1])
	w.balance(0, 1, 1)
	w.holds(api.Warm, row[1], row[0])
	w.holds(api.Cold)
	w.active(row)
}

func TestRunOwn(t *testing.T) {
	for kind := api.Hot; kind <= api.Cold; kind++ {
		w := begun(t, 34, 34)
		row := w.row(0, kind, 1)
		w.pick(0, row[0], 5, nil, 0, false, 0)
		w.pick(0, row[0], 5, in(row...), 0, false, 0)
	}
	w := begun(t, 34, 34)
	a, z := w.row(0, api.Cold, 1)[0], w.row(0, api.Hot, 1)[0]
	w.pick(0, a, 5, nil, z, false, 1)
}

func TestRunNoClass(t *testing.T) {
	w := begun(t, 34, 34)
	w.entered(0, 3)
	w.pick(9, 0, 5, nil, 0, false, 0)
	w.balance(-1, 5, 0)
	w.lengths(9, 0, 0, 0)
}

func TestRunNew(t *testing.T) {
	w := begun(t, 34, 34)
	refused(w, "New(s, q, 45, 46)", func() (*lru.Lru, api.Errno) { return lru.New(w.set, w.queue, 45, 46) })
	refused(w, "New(s, q, 0, 5)", func() (*lru.Lru, api.Errno) { return lru.New(w.set, w.queue, 0, 5) })
	refused(w, "New(s, nil, 30, 30)", func() (*lru.Lru, api.Errno) { return lru.New(w.set, nil, 30, 30) })
}

// Examples 1 to 3.
func TestExamples(t *testing.T) {
	w := begun(t, 34, 34)
	row := w.entered(0, 9)
	w.balance(0, 99, 6)
	w.holds(api.Hot, row[8], row[7], row[6])
	w.holds(api.Cold, row[5], row[4], row[3], row[2], row[1], row[0])
	w.pick(0, 0, 5, nil, row[0], false, 5)
	w.hit(row[0])
	w.pick(0, 0, 5, nil, row[1], false, 5)
	w.balance(0, 99, 1)
	w.holds(api.Warm, row[0])
	w.holds(api.Cold, row[5], row[4], row[3], row[2], row[1])
	w.active(row)
}
