package count

// The names of the counters.
const (
	cmdGet = iota + 1
	cmdSet
	cmdTouch
	cmdFlush
	cmdMeta
	getHits
	getMisses
	getExpired
	getFlushed
	deleteHits
	deleteMisses
	incrHits
	incrMisses
	decrHits
	decrMisses
	casHits
	casBadval
	casMisses
	touchHits
	touchMisses
	evictions
	reclaimed
	refused
	totalItems
	currItems
	bytesHeld
	totalConnections
	currConnections
	crawled
	badLines
)

// last is the last name.
const last = badLines

// wordOf has the word of each name.
var wordOf = [last + 1]string{
	cmdGet:           "cmd_get",
	cmdSet:           "cmd_set",
	cmdTouch:         "cmd_touch",
	cmdFlush:         "cmd_flush",
	cmdMeta:          "cmd_meta",
	getHits:          "get_hits",
	getMisses:        "get_misses",
	getExpired:       "get_expired",
	getFlushed:       "get_flushed",
	deleteHits:       "delete_hits",
	deleteMisses:     "delete_misses",
	incrHits:         "incr_hits",
	incrMisses:       "incr_misses",
	decrHits:         "decr_hits",
	decrMisses:       "decr_misses",
	casHits:          "cas_hits",
	casBadval:        "cas_badval",
	casMisses:        "cas_misses",
	touchHits:        "touch_hits",
	touchMisses:      "touch_misses",
	evictions:        "evictions",
	reclaimed:        "reclaimed",
	refused:          "refused",
	totalItems:       "total_items",
	currItems:        "curr_items",
	bytesHeld:        "bytes",
	totalConnections: "total_connections",
	currConnections:  "curr_connections",
	crawled:          "crawled",
	badLines:         "bad_lines",
}

func isName(name int) bool { return name >= cmdGet && name <= last }

// stays: does a counter tell what is there now, which no reset takes away?
func stays(name int) bool {
	return name == currItems || name == bytesHeld || name == currConnections
}
