package reply

import (
	"strconv"

	"granary/api"
)

const lineEnd = "\r\n"

// write writes an answer down that fits.
func write(c api.Command, r api.Answer) []byte {
	switch r.Kind {
	case api.Values:
		return writeEntries(r.Entries, tellsToken(c.Verb))
	case api.Number:
		return line(nil, digits(r.Number))
	case api.Told:
		return line(nil, versionLine, r.Text)
	case api.Stat:
		return writeStats(r.Stats)
	case api.Meta:
		return writeMeta(r)
	case api.Refused:
		return line(nil, r.Text)
	case api.Nothing:
		return nil
	}
	return line(nil, word(r.Kind))
}

func writeEntries(entries []api.Entry, withToken bool) []byte {
	var out []byte
	for _, e := range entries {
		words := []string{entryLine, e.Key, digits(e.Flags), strconv.Itoa(len(e.Value))}
		if withToken {
			words = append(words, digits(e.Token))
		}
		out = block(line(out, words...), e.Value)
	}
	return line(out, endLine)
}

func writeStats(stats []api.StatLine) []byte {
	var out []byte
	for _, s := range stats {
		out = line(out, statLine, s.Name, digits(s.Value))
	}
	return line(out, endLine)
}

// writeMeta: only a line that tells a value has an entry, which is its block.
func writeMeta(r api.Answer) []byte {
	out := line(nil, r.Text)
	for _, e := range r.Entries {
		out = block(out, e.Value)
	}
	return out
}

// line lays a line behind what is there: its words, one blank between two.
func line(out []byte, words ...string) []byte {
	for i, w := range words {
		if i > 0 {
			out = append(out, ' ')
		}
		out = append(out, w...)
	}
	return append(out, lineEnd...)
}

// block lays a value behind what is there.
func block(out, value []byte) []byte {
	return append(append(out, value...), lineEnd...)
}

func digits(n uint64) string { return strconv.FormatUint(n, 10) }
