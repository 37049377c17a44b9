package rules

import (
	"testing"

	"granary/api"
)

// The limits that the document's section 'Words' names.
func TestLimits(t *testing.T) {
	for _, x := range []struct {
		name      string
		got, must uint64
	}{
		{"MinPage", api.MinPage, 4096},
		{"MaxPage", api.MaxPage, 1 << 20},
		{"MaxPages", api.MaxPages, 1024},
		{"MinFactor", api.MinFactor, 105},
		{"MaxFactor", api.MaxFactor, 400},
		{"MinChunk", api.MinChunk, 64},
		{"MaxChunk", api.MaxChunk, 512},
		{"MaxClasses", api.MaxClasses, 62},
		{"MaxShare", api.MaxShare, 90},
		{"Head", api.Head, 56},
		{"MaxKey", api.MaxKey, 250},
		{"MaxFlags", api.MaxFlags, 1<<32 - 1},
		{"MinBuckets", api.MinBuckets, 16},
		{"MaxBuckets", api.MaxBuckets, 1 << 20},
		{"MaxRelative", api.MaxRelative, 2592000},
		{"MaxTick", api.MaxTick, 1 << 40},
		{"MaxLine", api.MaxLine, 2048},
		{"MaxBlock", api.MaxBlock, 1<<31 - 1},
		{"MaxNumber", api.MaxNumber, 1<<64 - 1},
		{"MaxPace", api.MaxPace, 1 << 20},
		{"MaxConns", api.MaxConns, 1024},
		{"MaxShards", api.MaxShards, 64},
		{"MaxWorkers", api.MaxWorkers, 16},
		{"MaxBatch", api.MaxBatch, 1 << 16},
		{"Looks", api.Looks, 5},
		{"TickLooks", api.TickLooks, 64},
		{"Leap", api.Leap, 1 << 32},
		{"MaxOpaque", api.MaxOpaque, 32},
		{"MaxServers", api.MaxServers, 256},
		{"MaxServer", api.MaxServer, 64},
		{"MaxWeight", api.MaxWeight, 8},
		{"PointsEach", api.PointsEach, 64},
		{"MaxFlying", api.MaxFlying, 1024},
		{"MaxFile", api.MaxFile, 32},
		{"MaxSpace", api.MaxSpace, 1 << 40},
		{"MaxAppend", api.MaxAppend, 65536},
	} {
		if x.got != x.must {
			t.Errorf("%s is %d, the document says %d", x.name, x.got, x.must)
		}
	}
}

// The errors that the document's section 'Words' names.
func TestErrors(t *testing.T) {
	for _, x := range []struct {
		name string
		got  api.Errno
		must int
	}{
		{"OK", api.OK, 0},
		{"ErrArg", api.ErrArg, 1},
		{"ErrMany", api.ErrMany, 2},
		{"ErrSmall", api.ErrSmall, 3},
		{"ErrClock", api.ErrClock, 4},
		{"ErrConn", api.ErrConn, 5},
		{"ErrLong", api.ErrLong, 6},
		{"ErrForm", api.ErrForm, 7},
		{"ErrTwice", api.ErrTwice, 8},
		{"ErrTokens", api.ErrTokens, 9},
		{"ErrBusy", api.ErrBusy, 10},
		{"ErrHandle", api.ErrHandle, 20},
		{"ErrRoom", api.ErrRoom, 21},
		{"ErrKey", api.ErrKey, 30},
		{"ErrIO", api.ErrIO, 180},
		{"ErrSpace", api.ErrSpace, 181},
		{"ErrMissing", api.ErrMissing, 182},
		{"ErrExists", api.ErrExists, 183},
		{"ErrDown", api.ErrDown, 184},
		{"ErrCorrupt", api.ErrCorrupt, 185},
		{"ErrName", api.ErrName, 186},
		{"ErrServer", api.ErrServer, 190},
		{"ErrTimeout", api.ErrTimeout, 200},
		{"ErrClosed", api.ErrClosed, 201},
		{"ErrGarbled", api.ErrGarbled, 202},
	} {
		if int(x.got) != x.must {
			t.Errorf("%s is %d, the document says %d", x.name, int(x.got), x.must)
		}
	}
}
