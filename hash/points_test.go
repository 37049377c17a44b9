package hash_test

import (
	"fmt"
	"hash/fnv"
	"math"
	"slices"
	"strings"
	"testing"

	"granary/api"
	"granary/hash"
)

// points must be given.
func points(t *testing.T, name string, n int) []uint32 {
	t.Helper()
	p, e := hash.Points(name, n)
	if e != api.OK || len(p) != n {
		t.Fatalf("Points(%q, %d): %d points, %v", name, n, len(p), e)
	}
	return p
}

// refused: ErrArg, and beside it nothing.
func refused(t *testing.T, name string, n int) {
	t.Helper()
	if p, e := hash.Points(name, n); e != api.ErrArg || len(p) != 0 || cap(p) != 0 {
		t.Errorf("Points of a name of %d bytes, %d: %v, %v", len(name), n, p, e)
	}
}

// place is the k-th point of a name, by the library's sum and a mixture that does not wrap.
func place(name string, k int) uint32 {
	sum := fnv.New64a()
	fmt.Fprintf(sum, "%s-%d", name, k)
	return uint32(mixed(sum.Sum64()) >> 32)
}

// names are of any bytes, 1 to 250 of them.
func names() []string {
	all := []string{"s", "0", "-", "--", "s-1", "s-", "server 1\r\n", " ", "\x00", "\x7F", "\xFF\xFE", "gr\u00E4nary", "10.0.0.1:11211"}
	for _, c := range []string{"x", "\x00", "\xFF"} {
		all = append(all, strings.Repeat(c, 249), strings.Repeat(c, 250))
	}
	return append(all, strings.Repeat("\u00E4", 125))
}

// P4.5: the chapter's runs that are refused, and what lies around them.
func TestRefusedPoints(t *testing.T) {
	for _, name := range []string{"", strings.Repeat("x", 251), strings.Repeat("\x00", 251), strings.Repeat("\u00E4", 126), strings.Repeat("x", 1<<16)} {
		for _, n := range []int{1, 2, 512, 0, 513} {
			refused(t, name, n)
		}
	}
	for _, n := range []int{math.MinInt, -512, -1, 0, 513, 514, 1 << 32, 1<<32 + 1, 1 << 62, math.MaxInt} {
		refused(t, "s", n)
		refused(t, strings.Repeat("x", 250), n)
	}
}

// P4.5: at the limits, and within them: the k-th point is that of the name, a dash and k's digits.
func TestPointsAre(t *testing.T) {
	for _, name := range names() {
		for _, n := range []int{1, 2, 9, 10, 11, 99, 100, 101, 511, 512} {
			for k, got := range points(t, name, n) {
				if must := place(name, k); got != must {
					t.Errorf("point %d of %d of %q is %#x instead of %#x", k, n, name, got, must)
				}
			}
		}
	}
}

// P4.5: the third of the chapter's examples, and its run of 12.
func TestPointsOfS(t *testing.T) {
	at := func(text string) uint32 { return hash.Point(hash.Sum([]byte(text))) }
	if got, must := points(t, "s", 2), []uint32{at("s-0"), at("s-1")}; !slices.Equal(got, must) {
		t.Errorf("Points(s, 2) are %x instead of %x", got, must)
	}
	few, more := points(t, "s", 11), points(t, "s", 12)
	if !slices.Equal(few, more[:11]) {
		t.Errorf("Points(s, 12) begin as %x instead of %x", more[:11], few)
	}
	if more[11] != at("s-11") {
		t.Errorf("the last of Points(s, 12) is %x", more[11])
	}
}

// P4.6: Points of n begin with those of every m below n.
func TestPointsBeginAlike(t *testing.T) {
	for _, name := range names() {
		all := points(t, name, 512)
		for n := 1; n < 512; n++ {
			if !slices.Equal(points(t, name, n), all[:n]) {
				t.Fatalf("Points(%q, %d) are not the first of 512", name, n)
			}
		}
	}
}

// P4.5: two points may be the same: none is left out, none is moved.
func TestPointsMayBeTheSame(t *testing.T) {
	for _, x := range []struct {
		name        string
		first, next int
		at          uint32
	}{{"s7432", 155, 373, 2196715439}, {"s111089", 51, 62, 2031807499}, {"s116031", 332, 450, 3874298853}} {
		p := points(t, x.name, 512)
		if p[x.first] != x.at || p[x.next] != x.at {
			t.Errorf("points %d and %d of %s are %d and %d instead of %d", x.first, x.next, x.name, p[x.first], p[x.next], x.at)
		}
	}
}

// R2: what is answered is the caller's own, its spare room too.
func TestPointsAreTheCallers(t *testing.T) {
	for _, n := range []int{1, 11, 511, 512} {
		first, second := points(t, "s", n), points(t, "s", n)
		must := slices.Clone(second)
		for i := range first {
			first[i] = ^first[i]
		}
		spare := first[:cap(first)]
		for i := n; i < len(spare); i++ {
			spare[i] = ^uint32(0)
		}
		_ = append(first, 1, 2, 3)
		if !slices.Equal(second, must) || !slices.Equal(points(t, "s", n), must) {
			t.Errorf("Points(s, %d) hang on what was done with others", n)
		}
	}
}

// R3, R4: a refusal, or a call in between, changes nothing.
func TestPointsKeepNothing(t *testing.T) {
	must := points(t, "s", 64)
	refused(t, "", 64)
	refused(t, "s", 513)
	points(t, "other", 512)
	hash.Sum([]byte("other"))
	hash.Slot(hash.Mix(9), 9)
	if !slices.Equal(points(t, "s", 64), must) {
		t.Error("Points(s, 64) hang on the calls ahead")
	}
}
