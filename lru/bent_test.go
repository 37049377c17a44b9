package lru_test

import (
	"math"
	"math/rand"
	"testing"

	"granary/api"
	"granary/item"
	"granary/lru"
)

// every makes each call with these handles; what is answered is not looked at.
func every(l *lru.Lru, handles []api.Handle) {
	for _, h := range handles {
		l.Hit(h)
		l.Leave(h)
		l.Enter(h)
		l.Enter(h)
		l.Hit(h)
	}
	for c := -1; c <= classes; c++ {
		l.Balance(c, math.MaxInt, func(api.Handle) {})
		l.Pick(c, 0, math.MaxInt, func(api.Handle) bool { return false })
		l.Pick(c, 1, math.MinInt, nil)
		l.Len(c)
		for range l.Walk(c) {
		}
	}
	for _, h := range handles {
		l.Leave(h)
	}
}

// R1: a queue whose tail is gone without having left gets no shorter: Balance ends all the same.
func TestGivenUnderneath(t *testing.T) {
	for kind := api.Hot; kind <= api.Cold; kind++ {
		for i := range 5 {
			w := begun(t, 30, 30)
			row := w.row(0, kind, 5)
			w.is("class.Give", w.set.Give(row[i]), api.OK)
			w.lru.Balance(0, math.MaxInt, nil)
			every(w.lru, row)
		}
	}
}

// R1: links that were bent, each to each.
func TestRings(t *testing.T) {
	for from := range 5 {
		for to := range 5 {
			for which := 1; which <= 2; which++ {
				w := begun(t, 30, 30)
				row := w.row(0, api.Cold, 5)
				w.is("item.SetLink", item.SetLink(w.set, row[from], which, row[to]), api.OK)
				if n := len(w.walk(0)); n > 5 {
					t.Errorf("of five items %d are told", n)
				}
				every(w.lru, row)
			}
		}
	}
}

// spoil does what nobody may do with an item that stands in a queue.
func spoil(w *world, r *rand.Rand, h, other api.Handle) {
	switch r.Intn(5) {
	case 0:
		w.set.Give(h)
	case 1:
		item.Lay(w.set, h, api.Item{Key: []byte("n"), State: 1 + r.Intn(4), Marks: r.Intn(16)})
	case 2:
		item.SetState(w.set, h, 1+r.Intn(4))
	default:
		item.SetLink(w.set, h, 1+r.Intn(2), other)
	}
}

// R1: whatever is done to the items, each call ends, and none panics.
func TestSpoiled(t *testing.T) {
	for seed := range int64(60) {
		w, r := begun(t, 20, 50), rand.New(rand.NewSource(seed))
		handles := append(w.entered(0, 20), w.entered(1, 10)...)
		for range 400 {
			h, other := handles[r.Intn(len(handles))], handles[r.Intn(len(handles))]
			switch r.Intn(9) {
			case 0:
				spoil(w, r, h, other)
			case 1:
				if h, e := w.set.Take(r.Intn(classes)); e == api.OK {
					item.Lay(w.set, h, api.Item{Key: []byte("n"), State: 1 + r.Intn(4)})
					handles = append(handles, h)
				}
			case 2:
				w.lru.Leave(h)
			case 3, 4:
				w.lru.Enter(h)
			case 5:
				w.lru.Hit(h)
			case 6:
				w.lru.Balance(r.Intn(classes), 1+r.Intn(9), nil)
			case 7:
				w.lru.Balance(r.Intn(classes), math.MaxInt, nil)
			default:
				w.lru.Pick(r.Intn(classes), h, r.Intn(99), nil)
			}
		}
		every(w.lru, handles)
	}
}
