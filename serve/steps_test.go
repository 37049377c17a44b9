package serve_test

import (
	"testing"

	"granary/api"
	"granary/serve"
)

// P16.3: each of the classic verbs, by the store's Do.
func TestClassicVerbs(t *testing.T) {
	s := opened(t, 1)
	told(t, s, 1,
		"get a|", "END|",
		"set a 5 0 1|x|", "STORED|",
		"add a 5 0 1|x|", "NOT_STORED|",
		"add b 6 0 2|yz|", "STORED|",
		"replace q 0 0 1|x|", "NOT_STORED|",
		"replace a 7 0 1|w|", "STORED|",
		"append a 0 0 2|12|", "STORED|",
		"prepend a 0 0 2|34|", "STORED|",
		"append q 0 0 2|12|prepend q 0 0 1|1|", "NOT_STORED|NOT_STORED|",
		"get a b q a|", "VALUE a 7 5|34w12|VALUE b 6 2|yz|VALUE a 7 5|34w12|END|",
		"gets b q|", "VALUE b 6 2 2|yz|END|",
		"gat 9 b|", "VALUE b 6 2|yz|END|",
		"gats 0 b q a|", "VALUE b 6 2 2|yz|VALUE a 7 5 5|34w12|END|",
		"cas a 0 0 1 4|v|", "EXISTS|",
		"cas q 0 0 1 5|v|", "NOT_FOUND|",
		"cas a 0 0 1 5|v|", "STORED|",
		"delete q|", "NOT_FOUND|",
		"delete b 0|", "DELETED|",
		"incr q 1|decr q 1|", "NOT_FOUND|NOT_FOUND|",
		"set n 0 0 2|10|incr n 5|decr n 7|decr n 99|", "STORED|15|8|0|",
		"incr n 18446744073709551615|incr n 2|", "18446744073709551615|1|",
		"touch q 5|touch a 5|", "NOT_FOUND|TOUCHED|",
		"verbosity 1|", "OK|",
		"version|", "VERSION granary 1|",
		"flush_all|get a n|", "OK|END|",
		"flush_all 5|", "OK|",
	)
}

// P16.3: the meta commands, by meta's Do.
func TestMetaVerbs(t *testing.T) {
	s := opened(t, 1)
	told(t, s, 1,
		"mg a|", "EN|",
		"mg a q|", "",
		"ms a 1 T30 c|x|", "HD c1|",
		"mg a v Oxy k|", "VA 1 Oxy ka|x|",
		"mg a f c t s h l|", "HD f0 c1 t30 s1 h1 l0|",
		"ms a 1 ME|y|", "NS|",
		"ms a 1 C7|y|", "EX|",
		"ms q 1 C7|y|", "NF|",
		"ms a 2 q|zz|", "",
		"md a I|", "HD|",
		"mg a v|mg a v|", "VA 2 X W|zz|VA 2 X Z|zz|",
		"md a C9|", "EX|",
		"md a|md a|md a q|", "HD|NF|",
		"ma n|", "NF|",
		"ma n N0 J5 v|", "VA 1|5|",
		"ma n v|ma n MD D9 v|", "VA 1|6|VA 1|0|",
		"ma n q|", "",
		"mn|", "MN|",
		"mg b N30 v t|", "VA 0 t30 W||",
		"get n a b|", "VALUE n 0 1|1|VALUE b 0 0||END|",
	)
}

// P16.3: what a store refuses, and the word ahead of it.
func TestRefused(t *testing.T) {
	big := many(300)
	s := opened(t, 1)
	told(t, s, 1, "set a 3 0 1|x|", "STORED|")
	for _, line := range []string{"incr a 1", "decr a 1", "ma a", "ma a q v MD"} {
		told(t, s, 1, line+"|", noNumber)
	}
	told(t, s, 1, "append a 0 0 300|"+big+"|prepend a 0 0 300|"+big+"|", tooLarge+tooLarge)
	told(t, s, 1, "append a 0 0 197|"+big[:197]+"|get a|", tooLarge+"VALUE a 3 1|x|END|")
	told(t, s, 1, "set a 0 0 197|"+big[:197]+"|set a 0 0 198|"+big[:198]+"|get a|", "STORED|"+tooLarge+"END|")
	for _, verb := range []string{"set", "add", "replace"} {
		told(t, s, 1, "set a 0 0 1|x|"+verb+" a 0 0 300|"+big+"|get a|", "STORED|"+tooLarge+"END|")
	}
	told(t, s, 1, "set a 0 0 1|x|cas a 0 0 300 1|"+big+"|get a|", "STORED|"+tooLarge+"END|")
	told(t, s, 1, "set a 0 0 1|x|ms a 300|"+big+"|mg a|", "STORED|"+tooLarge+"EN|")
	told(t, s, 1, "ms a 300 q|"+big+"|", tooLarge)
	told(t, s, 1, "mg "+many(199)+" N0|ma "+many(198)+" N0|", tooLarge+tooLarge)
	told(t, s, 1, "set "+many(197)+" 0 0 1|9|incr "+many(197)+" 1|", "STORED|"+tooLarge)
}

// P16.3: what is refused for room.
func TestRefusedForRoom(t *testing.T) {
	s := opened(t, 1)
	for i := range 64 {
		told(t, s, 1, "set big"+digits(100+i)+" 0 0 180|"+many(180)+"|", "STORED|")
	}
	told(t, s, 1, "set a 0 0 1|x|add a 0 0 1|x|get a|", noRoom+noRoom+"END|")
	told(t, s, 1, "ms a 1|x|mg a N0|ma a N0|mg a q N5|ms a 1 q|x|", noRoom+noRoom+noRoom+noRoom+noRoom)
	told(t, s, 1, "set a 0 0 1 noreply|x|", "")
	counts(t, s, "cmd_set 69 total_items 64 cmd_meta 5 refused 8 curr_items 64 bytes 15616 total_connections curr_connections cmd_get 3 get_misses 3 incr_misses")
}

// P16.3, W3(c): a store of chunks as great as pages; those of the item that stays, and of the one that is gone.
func TestNoRoomOfItsOwn(t *testing.T) {
	c := api.Config{PageSize: 4096, Pages: 4, Factor: 400, MinChunk: 64, ItemLimit: 4096, Hot: 30, Warm: 30}
	crowd := func() *serve.Server {
		s := paced(t, c, usual(), 1)
		told(t, s, 1, "set k 0 0 4000|"+many(4000)+"|", "STORED|")
		told(t, s, 1, "set a 0 0 1|x|set b 0 0 100|"+many(100)+"|set c 0 0 500|"+many(500)+"|", "STORED|STORED|STORED|")
		return s
	}
	told(t, crowd(), 1, "set k 0 0 4000|"+many(4000)+"|get k|", noRoom+"END|")
	told(t, crowd(), 1, "append k 0 0 1|x|get k|", noRoom+"VALUE k 0 4000|"+many(4000)+"|END|")
	told(t, crowd(), 1, "ms k 4000|"+many(4000)+"|mg k|", noRoom+"EN|")
	told(t, crowd(), 1, "ms k 1 MA|x|mg k s|", noRoom+"HD s4000|")
}

// P16.3: with noreply nothing that the store answers is told, refusals too; what is wrong with a line or a block is.
func TestNoreply(t *testing.T) {
	s := opened(t, 1)
	told(t, s, 1,
		"set a 0 0 1 noreply|x|add a 0 0 1 noreply|x|replace q 0 0 1 noreply|x|append a 0 0 1 noreply|y|prepend q 0 0 1 noreply|y|", "",
		"cas a 0 0 1 1 noreply|z|cas q 0 0 1 1 noreply|z|", "",
		"incr a 1 noreply|decr a 1 noreply|incr q 1 noreply|", "",
		"set b 0 0 300 noreply|"+many(300)+"|", "",
		"touch a 9 noreply|touch q 9 noreply|delete q noreply|delete q 0 noreply|verbosity 1 noreply|flush_all 9 noreply|", "",
		"gets a|", "VALUE a 0 2 2|xy|END|",
		"delete a noreply|get a|", "END|",
		"set a x 0 1 noreply|x|", badLine,
		"set a 0 0 1 noreply|xx|", badBlock,
		"touch a x noreply|", badTime,
		"incr a x noreply|", badDelta,
		"get a noreply|", "END|",
		"stats reset noreply|version noreply|", badLine+badLine,
	)
}

// P16.3: wrong lines and blocks are told as reply.Wrong tells them, and do nothing.
func TestWrong(t *testing.T) {
	s := opened(t, 1)
	told(t, s, 1, "set a 5 0 1|o|", "STORED|")
	told(t, s, 1,
		"|", "ERROR|",
		" |", "ERROR|",
		"\n", "ERROR|",
		"bogus a b c|", "ERROR|",
		"SET a 0 0 1|x|", "ERROR|ERROR|",
		"get|", badLine,
		"get "+many(251)+"|", badLine,
		"set a 0 0|", badLine,
		"set a 4294967296 0 1|x|", badLine,
		"set a 0 0 -1|", badLine,
		"set a 0 x 1|x|", badTime,
		"flush_all -1|", badTime,
		"incr a -1|", badDelta,
		"delete a 1|", badLine,
		"set a 0 0 3|abcd|", badBlock,
		"set a 0 0 3|ab|", badBlock, // the CR is the block's
		"set a 0 0 3|abcd", "", // the block goes on
		"e|", badBlock,
		"mg|", badLine,
		"mg a v v|", "CLIENT_ERROR duplicate flag|",
		"mg a z|", "CLIENT_ERROR invalid flag|",
		"ms a 1 Tx|x|", "CLIENT_ERROR bad token in command line format|",
		"mg a O"+many(33)+"|", "CLIENT_ERROR opaque token too long|",
		"stats items|", badLine,
		"get "+many(2044)+"|", badLine,
		"get "+many(2045)+"|", tooLong,
		many(9000), "",
		"|", tooLong,
		"gets a|", "VALUE a 5 1 1|o|END|",
	)
	counts(t, s, "cmd_set cmd_get get_hits total_items curr_items bytes 60 total_connections curr_connections bad_lines 27")
}

// P16.3: keys and values of all bytes that may be.
func TestAllBytes(t *testing.T) {
	var key, value []byte
	for b := range 256 {
		if b > 32 && b != 127 && b != '|' {
			key = append(key, byte(b))
		}
		value = append(value, byte(b))
	}
	c := wide()
	c.ItemLimit = 1024
	s := paced(t, c, usual(), 1)
	send := func(text, must string) {
		t.Helper()
		if got, no := s.Do(api.Event{Kind: api.Chunk, Conn: 1, Bytes: []byte(text)}); no != api.OK || string(got) != must {
			t.Errorf("%q is told %q, %v, not %q", text, got, no, must)
		}
	}
	k := string(key)
	send("set "+k+" 0 0 256\r\n"+string(value)+"\r\n", "STORED\r\n")
	send("get "+k+"\r\n", "VALUE "+k+" 0 256\r\n"+string(value)+"\r\nEND\r\n")
	send("mg "+k+" k v\r\n", "VA 256 k"+k+"\r\n"+string(value)+"\r\n")
	send("md "+k+" k\r\n", "HD k"+k+"\r\n")
}

// P16.3: steps of one chunk are done one behind the other.
func TestOneBehindTheOther(t *testing.T) {
	s := opened(t, 1)
	told(t, s, 1, "get a|set a 0 0 1|1|get a|incr a 1|bogus|get a|delete a|get a|stats reset|mn|set a 0 -1 1|x|get a|",
		"END|STORED|VALUE a 0 1|1|END|2|ERROR|VALUE a 0 1|2|END|DELETED|END|RESET|MN|STORED|END|")
}

// P16.3: stats tells what is there at its place in the chunk.
func TestStatsInItsPlace(t *testing.T) {
	s := paced(t, small(), slow(), 2)
	b, _ := s.Do(chunk(2, "stats|set a 0 0 2|xy|stats|delete a|stats|quit|stats|"))
	at := func(items, bytes, sets, dels string) string {
		return "STAT cmd_get 0|STAT cmd_set " + sets + "|STAT cmd_touch 0|STAT cmd_flush 0|STAT cmd_meta 0|STAT get_hits 0|" +
			"STAT get_misses 0|STAT get_expired 0|STAT get_flushed 0|STAT delete_hits " + dels + "|STAT delete_misses 0|STAT incr_hits 0|" +
			"STAT incr_misses 0|STAT decr_hits 0|STAT decr_misses 0|STAT cas_hits 0|STAT cas_badval 0|STAT cas_misses 0|" +
			"STAT touch_hits 0|STAT touch_misses 0|STAT evictions 0|STAT reclaimed 0|STAT refused 0|STAT total_items " + sets + "|" +
			"STAT curr_items " + items + "|STAT bytes " + bytes + "|STAT total_connections 2|STAT curr_connections 2|STAT crawled 0|STAT bad_lines 0|END|"
	}
	if must := lines(at("0", "0", "0", "0") + "STORED|" + at("1", "61", "1", "0") + "DELETED|" + at("0", "0", "1", "1")); string(b) != must {
		t.Errorf("%q, not %q", b, must)
	}
	counts(t, s, "cmd_set delete_hits total_items total_connections 2 curr_connections 1")
}
