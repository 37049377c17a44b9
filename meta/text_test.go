package meta_test

import (
	"fmt"
	"math/rand"
	"strings"
	"testing"

	"granary/api"
)

// spoken is a meta command, and the text command that it must be answered as.
type spoken struct{ meta, text string }

// pick is any one of some.
func pick[T any](r *rand.Rand, some ...T) T { return some[r.Intn(len(some))] }

// anySpoken is a pair of commands that say the same.
func anySpoken(r *rand.Rand, key string) spoken {
	block := pick(r, "7", "99999", greatest, "x", "", long(40), long(100), long(180), long(197), long(198))
	tail := ""
	if block != "" {
		tail = " / " + block
	}
	exptime, flags := pick(r, 0, 0, 3, 9, 60, -1, 2592001), r.Intn(99)
	switch r.Intn(8) {
	case 0, 1, 2:
		m := pick(r, spoken{"", "set"}, spoken{"MS", "set"}, spoken{"Ms", "set"}, spoken{"ME", "add"}, spoken{"Me", "add"}, spoken{"MR", "replace"}, spoken{"Mr", "replace"},
			spoken{"MA", "append"}, spoken{"Ma", "append"}, spoken{"MP", "prepend"}, spoken{"Mp", "prepend"})
		return spoken{
			fmt.Sprintf("ms %s %d F%d T%d I %s%s", key, len(block), flags, exptime, m.meta, tail),
			fmt.Sprintf("%s %s %d %d %d%s", m.text, key, flags, exptime, len(block), tail),
		}
	case 3:
		return spoken{fmt.Sprintf("md %s T%d", key, exptime), "delete " + key}
	case 4, 5:
		m := pick(r, spoken{"", "incr"}, spoken{"MI", "incr"}, spoken{"Md", "decr"}, spoken{"MD", "decr"})
		delta := pick[uint64](r, 0, 1, 5, 1<<40, 1<<64-1)
		return spoken{fmt.Sprintf("ma %s v D%d J9 %s", key, delta, m.meta), fmt.Sprintf("%s %s %d", m.text, key, delta)}
	}
	return spoken{"mg " + key + " v f c k", "gets " + key}
}

// agrees: does the line of a meta command say what the text verb was answered?
func agrees(x spoken, line, text string) bool {
	verb, code := x.meta[:2], line[:min(len(line), 2)]
	_, value, _ := strings.Cut(line, ": ")
	key := strings.Fields(x.meta)[1]
	switch verb + " " + code {
	case "ms HD":
		return line == "HD" && text == "STORED"
	case "ms NS":
		return line == "NS" && text == "NOT_STORED"
	case "md HD":
		return line == "HD" && text == "DELETED"
	case "md NF", "ma NF":
		return line == "NF" && text == "NOT_FOUND"
	case "ma VA":
		return text == value
	case "mg VA":
		return text == key+"="+value+" END" && strings.Contains(line, " k"+key)
	case "mg EN":
		return line == "EN" && text == "END"
	}
	return line == text
}

// P14.12: runs of meta commands held against the text verbs on a second store, in stores that are full and such as are not.
func TestAsText(t *testing.T) {
	tight := small()
	tight.Pages = 3
	for i, c := range []api.Config{small(), tight} {
		for k, keys := range []int{5, 30, 300} {
			r := rand.New(rand.NewSource(int64(10*i + k)))
			got, must := paced(t, c, usual()), paced(t, c, usual())
			dropped := 0
			for range 4000 {
				x := anySpoken(r, fmt.Sprintf("k%03d", r.Intn(keys)))
				if r.Intn(10*keys) == 0 {
					x.meta = pick(r, "tick 1", "tick 5", "flush_all 3", "flush_all 0", "verbosity 1")
					x.text = x.meta
				}
				if line, text := calls(t, got, x.meta), calls(t, must, x.text); !agrees(x, line, text) {
					t.Fatalf("%.60q is answered %.60q, but %.60q %.60q", x.meta, line, x.text, text)
				}
				dropped += got.Meter().Dropped
				if g, m := sightOf(got), sightOf(must); fmt.Sprint(g.State, g.Meter, g.Why, g.Len, g.Bytes) != fmt.Sprint(m.State, m.Meter, m.Why, m.Len, m.Bytes) {
					t.Fatalf("behind %.60q: %+v, not %+v", x.meta, g, m)
				}
				if r.Intn(20) == 0 {
					alike(t, x.meta, got, must)
				}
			}
			alike(t, "all", got, must)
			if keys == 300 && dropped == 0 {
				t.Error("nothing was dropped")
			}
		}
	}
}

// P14.12: a MetaGet tells what gets does: value, flags, token.
func TestGetAsGets(t *testing.T) {
	s, must := opened(t), opened(t)
	for _, ahead := range []string{"set a 7 0 3 / abc", "incr q 1", "set n 4294967295 9 2 / 41", "incr n 1", "append a 0 0 2 / de"} {
		runs(t, s, ahead, calls(t, must, ahead))
		for _, key := range []string{"a", "n", "q"} {
			line := calls(t, s, "mg "+key+" v f c s k")
			a := must.Do(read(t, "gets "+key))
			told := "EN"
			for _, e := range a.Entries {
				told = fmt.Sprintf("VA %d f%d c%d s%d k%s: %s", len(e.Value), e.Flags, e.Token, len(e.Value), e.Key, e.Value)
			}
			if line != told {
				t.Errorf("%q, not %q", line, told)
			}
			alike(t, "mg "+key, s, must)
		}
	}
}
