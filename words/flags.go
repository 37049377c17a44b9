package words

import (
	"strings"

	"granary/api"
)

// What is told of flags that are wrong.
const (
	noFlag    = "invalid flag"
	twice     = "duplicate flag"
	badOpaque = "opaque token too long"
	badToken  = "bad token in command line format"
)

// Flags: what is wrong with the flags of a meta verb.
func Flags(verb int, l []api.Flag) string {
	bare, full := letters(verb)
	var seen [256]bool
	for _, f := range l {
		switch {
		case !has(bare, f.Letter) && !has(full, f.Letter):
			return noFlag
		case seen[f.Letter]:
			return twice
		case f.Letter == 'O' && (f.Arg == "" || len(f.Arg) > api.MaxOpaque):
			return badOpaque
		case f.Has != (f.Arg != ""), f.Has != has(full, f.Letter), f.Has && !follows(verb, f):
			return badToken
		}
		seen[f.Letter] = true
	}
	return ""
}

// letters are those of a verb behind which nothing stands, and those behind which something does.
func letters(verb int) (bare, full string) {
	switch verb {
	case api.MetaGet:
		return "kqvfctshl", "OTNR"
	case api.MetaSet:
		return "kqcI", "OTFCM"
	case api.MetaDelete:
		return "kqcI", "OTC"
	case api.MetaArith:
		return "kqvct", "OTNCMDJ"
	}
	return "", ""
}

// has: is a letter one of these?
func has(letters string, letter byte) bool { return strings.IndexByte(letters, letter) >= 0 }

// follows: is what stands behind the letter what must stand there?
func follows(verb int, f api.Flag) bool {
	ok := false
	switch f.Letter {
	case 'O':
		ok = isPlain(f.Arg)
	case 'T', 'N':
		_, ok = time(f.Arg)
	case 'R', 'C', 'D', 'J':
		_, ok = number(f.Arg, api.MaxNumber)
	case 'F':
		_, ok = number(f.Arg, api.MaxFlags)
	case 'M':
		ok = len(f.Arg) == 1 && has(modes(verb), f.Arg[0])
	}
	return ok
}

// modes are the letters that may stand behind M.
func modes(verb int) string {
	if verb == api.MetaSet {
		return "SEAPRseapr"
	}
	return "IDid"
}
