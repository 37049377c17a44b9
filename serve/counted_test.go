package serve_test

import (
	"testing"

	"granary/api"
)

// P16.4, W11: what each command adds, told by stats.
func TestCounted(t *testing.T) {
	const item = "set a 0 0 1|x|set n 0 0 1|5|set dead 0 -1 1|y|"
	for _, x := range [][3]string{
		{item, "", ""},
		{item, "get a|", "cmd_get get_hits"},
		{item, "get a q dead a|", "cmd_get 4 get_hits 2 get_misses 2 get_expired"},
		{item, "gets q q|", "cmd_get 2 get_misses 2"},
		{item + "flush_all|", "get a n|", "cmd_get 2 get_misses 2 get_flushed 2"},
		{item, "gat 5 a q dead|", "cmd_get 3 get_hits get_misses 2 get_expired cmd_touch 3 touch_hits touch_misses 2"},
		{item, "gats 5 a|", "cmd_get get_hits cmd_touch touch_hits"},
		{item, "set b 0 0 1|x|", "cmd_set total_items"},
		{item, "set b 0 0 1 noreply|x|", "cmd_set total_items"},
		{item, "set b 0 0 300|" + many(300) + "|", "cmd_set refused"},
		{item, "set b 0 0 300 noreply|" + many(300) + "|", "cmd_set refused"},
		{item, "add a 0 0 1|x|replace q 0 0 1|x|append q 0 0 1|x|prepend q 0 0 1|x|", "cmd_set 4"},
		{item, "add b 0 0 1|x|replace a 0 0 1|x|append a 0 0 1|x|prepend a 0 0 1|x|", "cmd_set 4 total_items 4"},
		{item, "cas a 0 0 1 1|x|cas a 0 0 1 1|x|cas q 0 0 1 1|x|", "cmd_set 3 total_items cas_hits cas_badval cas_misses"},
		{item, "delete a|delete a|delete dead|", "delete_hits delete_misses 2"},
		{item, "incr n 1|incr q 1|incr a 1|", "incr_hits incr_misses refused"},
		{item, "decr n 1 noreply|decr q 1 noreply|decr a 1 noreply|", "decr_hits decr_misses refused"},
		{item, "touch a 5|touch q 5|touch dead 5|", "cmd_touch 3 touch_hits touch_misses 2"},
		{item, "flush_all|flush_all 5 noreply|", "cmd_flush 2"},
		{item, "version|verbosity 1|", ""},
		{item, "stats|stats|stats|", ""},
		{item, "mg a|mg q|mg dead|mg q q|", "cmd_meta 4 cmd_get 4 get_hits get_misses 3 get_expired"},
		{item, "mg q N0|", "cmd_meta cmd_get get_misses"},
		{item, "ms b 1|x|ms b 1 q|x|ms a 1 ME|x|", "cmd_meta 3 cmd_set 3 total_items"},
		{item, "ms a 1 C1|x|ms a 1 C1|x|ms q 1 C1|x|", "cmd_meta 3 cmd_set 3 total_items cas_hits cas_badval cas_misses"},
		{item, "ms a 300|" + many(300) + "|", "cmd_meta cmd_set refused"},
		{item, "md a C9|md a|md a|md dead q|", "cmd_meta 4 delete_hits delete_misses 2"},
		{item, "md a I q|", "cmd_meta delete_hits"},
		{item, "ma n|ma n MD q|ma q|ma q MD|ma a|ma n C999|", "cmd_meta 6 incr_hits decr_hits incr_misses decr_misses refused"},
		{item, "mn|mn|", "cmd_meta 2"},
		{item, "|bogus|get|set a 0 0 1|xx|" + many(3000) + "|mg a z|", "bad_lines 6"},
		{item, "set a x 0 1 noreply|x|incr a z noreply|", "bad_lines 2"},
	} {
		adds(t, x[0], x[1], x[2])
	}
	s := paced(t, small(), slow(), 2)
	told(t, s, 2, "get a|quit|get a|bogus|", "END|")
	counts(t, s, "cmd_get get_misses total_connections 2 curr_connections")
}

// P16.4: half a command adds nothing, till it is whole.
func TestCountedWhenWhole(t *testing.T) {
	s := paced(t, small(), slow(), 2)
	told(t, s, 2, "set a 0 0 2|x", "", "y", "")
	counts(t, s, "total_connections 2 curr_connections 2")
	told(t, s, 2, "|bog", "STORED|")
	counts(t, s, "total_connections 2 curr_connections 2 cmd_set total_items curr_items bytes 61")
	told(t, s, 2, "us\n", "ERROR|", "set a 0 0 2|abc", "")
	counts(t, s, "total_connections 2 curr_connections 2 cmd_set total_items curr_items bytes 61 bad_lines")
	does(t, s, closing(2), "")
	counts(t, s, "total_connections 2 curr_connections cmd_set total_items curr_items bytes 61 bad_lines")
}

// P16.4: a MetaNoop tells nothing of the command ahead of it anew, nor of the tick.
func TestNoopIsCountedAlone(t *testing.T) {
	for _, ahead := range []string{"get a q b|", "gat 5 a q|", "mg a|", "mg q|", "set a 0 0 1|z|", "delete q|", "ma a|", "incr q 1|", "version|", ""} {
		s := paced(t, small(), api.Pace{Buckets: 8, Links: 3, Crawl: 100}, 1)
		s.Do(chunk(1, "set a 0 0 1|x|set b 0 0 1|y|set c 0 0 1|z|"+ahead))
		was := read(t, s, 1)
		told(t, s, 1, "mn|mn|mn|", "MN|MN|MN|")
		was["cmd_meta"] += 3
		if text := differ(read(t, s, 1), was); text != "" {
			t.Errorf("mn behind %q: stats tells%s", ahead, text)
		}
		does(t, s, tick(1), "")
		told(t, s, 1, "mn|", "MN|")
		was["cmd_meta"]++
		if text := differ(read(t, s, 1), was); text != "" {
			t.Errorf("mn behind %q and a tick: stats tells%s", ahead, text)
		}
	}
}

// P16.4: opens, closes, ticks, empty chunks and stats add to no other number.
func TestOtherEvents(t *testing.T) {
	s := paced(t, small(), usual(), 1)
	s.Do(chunk(1, "set a 0 1 1|x|set b 0 0 1|y|get a q|"))
	was := read(t, s, 1)
	does(t, s, tick(1), "") // a is dead, and is crawled by the tick
	was["curr_items"], was["bytes"] = 1, 60
	for range 3 {
		does(t, s, chunk(1, ""), "")
		refuses(t, s, chunk(9, "get a|"), api.ErrConn)
		refuses(t, s, tick(0), api.ErrArg)
		refuses(t, s, api.Event{Kind: 7}, api.ErrArg)
	}
	if text := differ(read(t, s, 1), was); text != "" {
		t.Errorf("stats tells%s", text)
	}
	opens(t, s, 2)
	opens(t, s, 3)
	does(t, s, closing(2), "")
	was["total_connections"], was["curr_connections"] = 3, 2
	if text := differ(read(t, s, 1), was); text != "" {
		t.Errorf("behind two opens and a close stats tells%s", text)
	}
	if text := differ(read(t, s, 3), was); text != "" {
		t.Errorf("on another connection stats tells%s", text)
	}
}

// P16.3: a reset leaves what is there now; what is counted goes on from zero.
func TestReset(t *testing.T) {
	s := paced(t, small(), slow(), 3)
	told(t, s, 2, "set a 0 0 1|x|set b 0 0 2|yy|get a q|bogus|mn|", "STORED|STORED|VALUE a 0 1|x|END|ERROR|MN|")
	counts(t, s, "cmd_set 2 total_items 2 cmd_get 2 get_hits get_misses bad_lines cmd_meta curr_items 2 bytes 121 total_connections 3 curr_connections 3")
	told(t, s, 3, "stats reset|", "RESET|")
	counts(t, s, "curr_items 2 bytes 121 curr_connections 3")
	told(t, s, 3, "stats reset|stats reset|", "RESET|RESET|")
	opens(t, s, 4)
	told(t, s, 4, "get a|delete b|", "VALUE a 0 1|x|END|DELETED|")
	does(t, s, closing(2), "")
	counts(t, s, "cmd_get get_hits delete_hits curr_items bytes 60 total_connections curr_connections 3")
}

// P16.4: what goes for room is counted: one that is dropped, one that is reclaimed.
func TestEvictions(t *testing.T) {
	s := paced(t, tight(), slow(), 1)
	for i := range 16 {
		told(t, s, 1, "set big"+digits(100+i)+" 0 0 190|"+many(190)+"|", "STORED|")
	}
	// The other two pages go to the other classes, so that none is free.
	told(t, s, 1, "set a 0 0 1|x|set b 0 0 60|"+many(60)+"|", "STORED|STORED|")
	counts(t, s, "cmd_set 18 total_items 18 curr_items 18 bytes 4243 total_connections curr_connections")
	told(t, s, 1, "set more 0 0 190|"+many(190)+"|", "STORED|")
	counts(t, s, "cmd_set 19 total_items 19 curr_items 18 bytes 4241 evictions total_connections curr_connections")
	told(t, s, 1, "flush_all|set next 0 0 190|"+many(190)+"|", "OK|STORED|")
	counts(t, s, "cmd_set 20 total_items 20 cmd_flush curr_items 18 bytes 4239 evictions reclaimed total_connections curr_connections")
	told(t, s, 1, "get next|get more|", "VALUE next 0 190|"+many(190)+"|END|END|")
}

// W3(a): as long as there is room, nothing is dropped and nothing refused.
func TestNoEvictionsWithRoom(t *testing.T) {
	s := opened(t, 1)
	for i := range 256 {
		told(t, s, 1, "set "+digits(1000+i)+" 0 0 2|xy|", "STORED|")
	}
	for i := range 256 {
		told(t, s, 1, "get "+digits(1000+i)+"|", "VALUE "+digits(1000+i)+" 0 2|xy|END|")
	}
	counts(t, s, "cmd_set 256 total_items 256 cmd_get 256 get_hits 256 curr_items 256 bytes 16384 total_connections curr_connections")
	told(t, s, 1, "set 9999 0 0 2|xy|", "STORED|")
	counts(t, s, "cmd_set 257 total_items 257 cmd_get 256 get_hits 256 curr_items 256 bytes 16384 evictions total_connections curr_connections")
}

// The numbers grow with what is done, over many commands.
func TestSums(t *testing.T) {
	s := paced(t, wide(), slow(), 1)
	for i := range 300 {
		s.Do(chunk(1, "set k"+digits(i)+" 0 0 1|x|get k"+digits(i)+" q q|incr k0 1|bogus|mn|"))
	}
	counts(t, s, "cmd_set 300 total_items 300 cmd_get 900 get_hits 300 get_misses 600 refused 300 bad_lines 300 cmd_meta 300 curr_items 300 bytes 18790 total_connections curr_connections")
}
