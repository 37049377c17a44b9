package meta_test

import (
	"math/rand"
	"strings"
	"testing"

	"granary/api"
	"granary/meta"
	"granary/reply"
)

// anyFlag is one of any kind, right or wrong.
func anyFlag(r *rand.Rand) api.Flag {
	f := api.Flag{Letter: pick(r, []byte("kqvfctshlOTNRFCMIDJ")...)}
	if r.Intn(20) == 0 {
		f.Letter = byte(r.Intn(256))
	}
	if strings.IndexByte("OTNRFCMDJ", f.Letter) >= 0 || r.Intn(20) == 0 {
		f.Arg = pick(r, "0", "1", "2", "9", "-1", "S", "e", "A", "p", "R", "I", "d", greatest, "9223372036854775807", "-9223372036854775808", "2592001", "x", "4294967295", "4294967296", "a b", "", "\xff", long(33))
	}
	f.Has = f.Arg != ""
	if r.Intn(20) == 0 {
		f.Has = !f.Has
	}
	return f
}

func anyCommand(r *rand.Rand) api.Command {
	c := api.Command{Verb: api.MetaGet + r.Intn(5), Data: []byte(pick(r, "", "1", "x", greatest, long(100), long(198), long(5000)))}
	if r.Intn(20) == 0 {
		c.Verb = pick(r, -1, 0, api.Get, api.Set, api.Stats, api.MetaNoop+1, 1<<62)
	}
	c.Keys = []string{pick(r, "a", "b", "c", "n", "key", long(138))}
	if r.Intn(10) == 0 {
		c.Keys = [][]string{nil, {"a", "b"}, {""}, {"a b"}, {long(250)}, {long(251)}, {"\xff"}, {"\x00"}}[r.Intn(8)]
	}
	for range r.Intn(5) {
		c.Meta = append(c.Meta, anyFlag(r))
	}
	c.Large = r.Intn(20) == 0
	c.Flags, c.Exptime, c.Token, c.Delta = r.Uint64(), r.Int()-r.Int(), r.Uint64(), r.Uint64()
	return c
}

// R1: every call ends, and none panics, whatever it is given; and what is told is a line that can be written down as a reply.
func TestWild(t *testing.T) {
	r := rand.New(rand.NewSource(41))
	tight := small()
	tight.Pages = 3
	for _, config := range []api.Config{small(), tight} {
		s := paced(t, config, usual())
		for range 40000 {
			c := anyCommand(r)
			a := meta.Do(s, c)
			shown(t, api.Answer{Kind: a.Kind, Text: a.Text, Number: a.Number, Stats: a.Stats, Entries: append([]api.Entry(nil), a.Entries...)})
			if a.Kind != api.Refused && !reply.Fits(c, a) {
				t.Fatalf("%v is answered %+v, which is no reply", c, a)
			}
			if r.Intn(50) == 0 {
				s.Tick(pick(r, 1, 2, 9, 100, 2592000))
			}
			if s.Len() > s.Quota(0)+s.Quota(1)+s.Quota(2) {
				t.Fatalf("%d items", s.Len())
			}
		}
	}
}

// At the clock's end, and with tokens and times as great as a picture may tell them.
func TestGreatNumbers(t *testing.T) {
	const last = api.MaxNumber - api.Leap
	rows := []api.Row{{Entry: api.Entry{Key: "a", Value: []byte("5"), Flags: api.MaxFlags, Token: last, Expiry: 1<<63 - 1, Touched: 1<<63 - 1, Stale: true}, Queue: api.Hot}}
	s := restored(t, small(), api.State{Now: api.MaxTick, Issued: last}, rows)
	runs(t, s,
		"mg a f c t s h l", "HD f4294967295 c18446744069414584319 t9223370937343148031 s1 h0 l-9223370937343148031 X W",
		"mg a l h", "HD l0 h1 X Z",
		"ms a 1 C18446744069414584320 I / x", "EX",
		"ms a 1 C18446744069414584318 I c / 7", "HD c18446744069414584320",
		"mg a v", "VA 1 X W: 7",
		"ma a c C18446744069414584320 v", "VA 1 c18446744069414584321: 8",
		"mg a T1099511627776 t", "HD t0",
		"mg a", "EN",
		"mg a N1099511627777 t", "HD t1 W",
		"mg a N1", "HD Z")
}

// A picture may hold an item in the last chunk that is above the item limit, of which a cas of no bytes is too large: what the store answers to the look is told.
func TestLookThatIsRefused(t *testing.T) {
	c := small()
	c.ItemLimit = 73 // chunks of 64 and 80
	rows := []api.Row{{Entry: api.Entry{Key: long(16), Token: 5}, Queue: api.Hot, Class: 1}}
	for _, text := range []string{"md " + long(16) + " C4", "ma " + long(16) + " C4", "ms " + long(16) + " 1 MA C4 / x"} {
		s := restored(t, c, api.State{Now: 1, Issued: 9}, rows)
		runs(t, s, "mg "+long(16)+" s c", "HD s0 c5", text, "! "+large, "mg "+long(16), "EN")
	}
}

// R4: two stores know nothing of each other.
func TestApart(t *testing.T) {
	one, two := opened(t), opened(t)
	runs(t, one, "ms a 1 / x", "HD", "md a I", "HD", "mg a", "HD X W")
	runs(t, two, "mg a", "EN", "mg a N0 c", "HD c1 W")
	runs(t, one, "mg a v c", "VA 1 c2 X Z: x")
	runs(t, two, "mg a", "HD Z")
}
