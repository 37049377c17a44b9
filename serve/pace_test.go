package serve_test

import (
	"regexp"
	"strings"
	"testing"

	"granary/api"
)

// ofPace are the lines of stats that tell what pace has done.
var ofPace = regexp.MustCompile(`STAT (get_expired|get_flushed|evictions|reclaimed|crawled|curr_items|bytes) \d+\r\n`)

// W4: where nothing goes for room, servers of unlike paces answer one script alike, but for some lines of stats.
func TestPaceIsNotSeen(t *testing.T) {
	for seed := range uint64(40) {
		d := diceOf(seed)
		d.odd = pick(d, 0, 30)
		script := d.script(400)
		first := answers(paced(t, wide(), usual(), 0), script)
		for _, p := range []api.Pace{{}, slow(), {Buckets: 1 << 20, Links: 1 << 20, Crawl: 1 << 20}, {Crawl: 1}, {Links: 50}} {
			for i, got := range answers(paced(t, wide(), p, 0), script) {
				must := first[i]
				got.bytes, must.bytes = ofPace.ReplaceAllString(got.bytes, ""), ofPace.ReplaceAllString(must.bytes, "")
				if got != must {
					t.Fatalf("seed %d, %v, event %d: %v, not %v", seed, p, i, got, must)
				}
			}
		}
	}
}

// W1, W3: where there is no room, no hit tells anything but the key's latest value, flags and token, and at most one item goes for each command that stores.
func TestCrowdedHitsAreLatest(t *testing.T) {
	for seed := range uint64(30) {
		d := diceOf(seed)
		s := paced(t, tight(), pick(d, usual(), slow()), 1)
		latest := map[string]string{}
		stored, n := 0, 0
		for range 600 {
			key := "key" + digits(100+d.IntN(60))
			if d.IntN(3) > 0 {
				b, _ := s.Do(chunk(1, "gets "+key+"|"))
				if got := string(b); got != "END\r\n" && got != latest[key] {
					t.Fatalf("seed %d: %s is told %.300q, not %.300q", seed, key, got, latest[key])
				}
				continue
			}
			n++
			value := digits(n) + many(150)
			b, _ := s.Do(chunk(1, "set "+key+" "+digits(n)+" 0 "+digits(len(value))+"|"+value+"|"))
			switch string(b) {
			case "STORED\r\n":
				stored++
				latest[key] = lines("VALUE " + key + " " + digits(n) + " " + digits(len(value)) + " " + digits(stored) + "|" + value + "|END|")
			case lines(noRoom):
				latest[key] = "END\r\n"
			default:
				t.Fatalf("seed %d: a set is told %q", seed, b)
			}
		}
		sums := read(t, s, 1)
		if sums["evictions"] == 0 || sums["evictions"] > uint64(stored) || sums["curr_items"] > 48 || sums["total_items"] != uint64(stored) {
			t.Errorf("seed %d: %v behind %d that were stored", seed, sums, stored)
		}
	}
}

// R4: one script is answered alike on every server of one Config.
func TestAgain(t *testing.T) {
	for seed := range uint64(20) {
		d := diceOf(seed)
		d.odd, d.crowd = pick(d, 0, 20), pick(d, false, true)
		script := d.script(400)
		for range 12 { // with many connections, so that an order of a map would show
			script = append(script, opening())
		}
		script = append(script, chunk(d.last+1, "stats|"))
		one, two := opened(t, 0), opened(t, 0)
		must := answers(one, script)
		for i, got := range answers(two, script) {
			if got != must[i] {
				t.Fatalf("seed %d, event %d: %v, not %v", seed, i, got, must[i])
			}
		}
		alike(t, "the same script", two, one)
		if last := must[len(must)-1].bytes; !strings.HasPrefix(last, "STAT") {
			t.Errorf("seed %d: stats is told %q", seed, last)
		}
	}
}
