package count_test

import (
	"math"
	"slices"
	"testing"

	"granary/api"
	"granary/count"
)

// verbs are all of them, and some that are none.
func verbs() []int {
	all := []int{math.MinInt, -1, 0, 25, 26, 255, 256 + api.Get, 1<<32 + api.Get, math.MaxInt}
	for v := api.Get; v <= api.MetaNoop; v++ {
		all = append(all, v)
	}
	return all
}

func metas() []int {
	return []int{api.MetaGet, api.MetaSet, api.MetaDelete, api.MetaArith, api.MetaNoop}
}

// answers are all kinds of answers, and some that are none.
func answers() []int {
	all := []int{math.MinInt, -1, 0, 16, 17, 256 + api.Stored, math.MaxInt}
	for k := api.Stored; k <= api.Meta; k++ {
		all = append(all, k)
	}
	return all
}

// whys are lists that why may be.
func whys() [][]int {
	return [][]int{
		nil, {-1}, {0}, {1}, {2}, {3}, {4}, {5}, {math.MinInt}, {math.MaxInt},
		{0, 1}, {1, 0}, {2, 0}, {3, 2}, {4, 0}, {-1, 1}, {0, 0, 0}, {0, 1, 2, 3}, {3, 2, 1, 0}, {5, 4, 3, 2, 1, 0, -1}, {1, 1, 2, 2, 2, 3, 0},
	}
}

// texts are what an answer may say.
func texts() []string {
	return []string{
		"", "HD", "EX", "NF", "NS", "VA", "EN", "MN",
		"HD c9", "EX O1 ka", "NF ka", "NS O1", "VA 1 c2", "HD X W", "EX ", "HD ", "NF  c1",
		" ", " HD", " EX", " NF", "HDX", "EXX", "NFX", "H", "E", "N", "HD\tc9", "EX\r\n", "NF\x00", "hd", "ex", "nf", "xHD", "c9 HD", "O EX", "HD EX", "EX HD", "NF HD", "HD\xa0",
	}
}

// flagLists are what Meta may be.
func flagLists() [][]api.Flag {
	return [][]api.Flag{
		nil, flagsOf("C5"), flagsOf("C"), flagsOf("c"), flagsOf("k", "Oxy", "C5"), flagsOf("C5", "C6"), flagsOf("c", "OC"), {{}},
		flagsOf("M"), flagsOf("MI"), flagsOf("Mi"), flagsOf("MD"), flagsOf("Md"), flagsOf("MDx"), flagsOf("Mdecr"), flagsOf("MID"), flagsOf("M D"), flagsOf("m", "D7"), flagsOf("D7"), flagsOf("mD"),
		flagsOf("MI", "MD"), flagsOf("MD", "MI"), flagsOf("M", "MD"), flagsOf("q", "N0", "MD", "C5"), flagsOf("C5", "D2", "Mi", "Md"),
		{{Letter: 'M', Arg: "D"}}, {{Letter: 'M', Arg: "d", Has: true}}, {{Letter: 'C', Has: true}}, {{Letter: 'M', Has: true}, {Letter: 'M', Arg: "D", Has: true}},
	}
}

// meters are what was done beside a command.
func meters() []api.Meter {
	all := []api.Meter{{Buckets: 1, Links: 2, Looked: 3}, {Buckets: math.MaxInt, Links: math.MaxInt, Looked: math.MaxInt}}
	for _, n := range []int{math.MinInt, -1, 0, 1, 2, 1 << 40, math.MaxInt} {
		all = append(all, api.Meter{Dropped: n}, api.Meter{Reclaimed: n}, api.Meter{Crawled: n}, api.Meter{Dropped: n, Reclaimed: n, Buckets: n, Links: n, Looked: n, Crawled: n})
	}
	return all
}

// counts holds what a call adds to a board on which numbers stand already.
func counts(t *testing.T, base sums, x call) {
	t.Helper()
	b := laid(base)
	x.on(b)
	base.count(x)
	if got := read(b); got != base {
		t.Fatalf("%#v: %q, not %q", x, shown(got), shown(base))
	}
}

// P15.3: each verb with each kind of answer, and with each why.
func TestVerbs(t *testing.T) {
	for _, verb := range verbs() {
		for _, kind := range answers() {
			for _, why := range whys() {
				counts(t, sums{}, of(verb, kind, why...))
				counts(t, every(5), of(verb, kind, why...))
			}
		}
	}
}

// P15.3: the flags and the text are looked at, and of no other verb than the meta commands.
func TestFlagsAndTexts(t *testing.T) {
	for _, verb := range verbs() {
		for _, kind := range answers() {
			for _, flags := range flagLists() {
				for _, text := range texts() {
					x := call{c: api.Command{Verb: verb, Meta: flags}, a: api.Answer{Kind: kind, Text: text}}
					counts(t, sums{}, x)
					if slices.Contains(metas(), verb) {
						for _, why := range []int{0, 1, 3, 4} {
							x.why = []int{why, 2}
							counts(t, sums{}, x)
						}
					}
				}
			}
		}
	}
}

// P15.3: what was done beside a command counts whatever it is.
func TestMeters(t *testing.T) {
	for _, m := range meters() {
		for _, verb := range verbs() {
			for _, kind := range answers() {
				x := of(verb, kind, 0)
				x.m = m
				counts(t, sums{}, x)
				counts(t, every(greatest/2), x)
			}
		}
	}
	adds(t, "evictions 3 reclaimed 4 crawled 5", call{}.worked(3, 4, 5))
	adds(t, "", call{}.worked(-3, -4, -5))
	adds(t, "evictions 3", call{}.worked(3, -4, 0))
	adds(t, "evictions 9223372036854775807 reclaimed 1 crawled 9223372036854775807", call{}.worked(math.MaxInt, 1, math.MaxInt))
	most := call{}.worked(math.MaxInt, math.MaxInt, math.MaxInt)
	adds(t, "evictions 18446744073709551614 reclaimed 18446744073709551614 crawled 18446744073709551614", most, most)
	adds(t, "evictions 18446744073709551615 reclaimed 18446744073709551615 crawled 18446744073709551615", most, most, most)
}

// P15.3: Command adds as Add does, up to the greatest number.
func TestCommandAtTheGreatest(t *testing.T) {
	for _, below := range []uint64{0, 1, 2} {
		for _, verb := range verbs() {
			for _, kind := range answers() {
				for _, why := range whys() {
					counts(t, every(greatest-below), of(verb, kind, why...).worked(1, 2, math.MaxInt))
				}
			}
			for _, text := range texts() {
				counts(t, every(greatest-below), told(verb, text, 0).with("C5", "Md"))
			}
		}
	}
}

// P15.3: of a command, an answer and a meter nothing else is looked at.
func TestNothingElseIsLookedAt(t *testing.T) {
	for _, verb := range verbs() {
		for _, kind := range answers() {
			x := told(verb, "HD", 0, 2).with("C5", "Md")
			x.a.Kind = kind
			must := sumsOfCalls(x)
			x.c.Keys, x.c.Flags, x.c.Exptime, x.c.Token, x.c.Delta = []string{"a", "b", "c"}, 1, -1, 2, 3
			x.c.Data, x.c.Noreply, x.c.Large, x.c.What = []byte("x"), true, true, "reset"
			x.a.Entries, x.a.Number, x.a.Stats = []api.Entry{{Key: "a"}, {Key: "b"}}, 9, []api.StatLine{{Name: "cmd_get", Value: 7}}
			x.m.Buckets, x.m.Links, x.m.Looked = 4, 5, 6
			b := count.New()
			x.on(b)
			holds(t, b, must)
		}
	}
}

// P15.3: a long why counts whole, but of the meta commands.
func TestLongWhy(t *testing.T) {
	var why []int
	for i := range 1 << 16 {
		why = append(why, i%6-1)
	}
	for _, verb := range verbs() {
		x := of(verb, api.Values, why...)
		counts(t, sums{}, x)
		counts(t, every(greatest-100), x)
	}
}

// P15.6: what serve lays or adds is added to by no command.
func TestServesOwn(t *testing.T) {
	var base sums
	for i, name := range []int{25, 26, 27, 28, 30} {
		base[name] = uint64(i + 3)
	}
	b := laid(base)
	for _, verb := range verbs() {
		for _, kind := range answers() {
			for i, text := range texts() {
				x := told(verb, text, 0, 1, 2, 3).with("C5", "MD").worked(i, i, i)
				x.a.Kind = kind
				x.on(b)
			}
		}
	}
	for _, name := range []int{25, 26, 27, 28, 30} {
		if n := b.Read(name); n != base[name] {
			t.Errorf("%s is %d, not %d", count.Name(name), n, base[name])
		}
	}
}
