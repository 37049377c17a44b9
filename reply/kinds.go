package reply

import "granary/api"

// What a line that is refused begins with.
const (
	plainError  = "ERROR"
	clientError = "CLIENT_ERROR"
	serverError = "SERVER_ERROR"
)

// What the lines of longer replies begin with.
const (
	entryLine   = "VALUE"
	versionLine = "VERSION"
	statLine    = "STAT"
	endLine     = "END"
)

// The codes of meta lines behind which more stands than flags, or nothing.
const (
	codeValue = "VA"
	codeMiss  = "EN"
	codeNoop  = "MN"
)

// maxWords is how many bytes words have at most.
const maxWords = 512

// reset is what makes a stats another command.
const reset = "reset"

// kinds are those of a command's answers; a verb that is none has none.
func kinds(c api.Command) []int {
	switch c.Verb {
	case api.Get, api.Gets, api.Gat, api.Gats:
		return []int{api.Values, api.Refused}
	case api.Set, api.Add, api.Replace, api.Append, api.Prepend:
		return []int{api.Stored, api.NotStored, api.Refused}
	case api.Cas:
		return []int{api.Stored, api.Exists, api.NotFound, api.Refused}
	case api.Delete:
		return []int{api.Deleted, api.NotFound, api.Refused}
	case api.Incr, api.Decr:
		return []int{api.Number, api.NotFound, api.Refused}
	case api.Touch:
		return []int{api.Touched, api.NotFound, api.Refused}
	case api.FlushAll, api.Verbosity:
		return []int{api.Fine, api.Refused}
	case api.Version:
		return []int{api.Told, api.Refused}
	case api.Stats:
		if c.What == reset {
			return []int{api.Reset, api.Refused}
		}
		return []int{api.Stat, api.Refused}
	case api.MetaGet, api.MetaSet, api.MetaDelete, api.MetaArith:
		return []int{api.Meta, api.Refused, api.Nothing}
	case api.MetaNoop:
		return []int{api.Meta, api.Refused}
	case api.Quit:
		return []int{api.Nothing}
	}
	return nil
}

// word is the whole line of a kind that tells nothing else.
func word(kind int) string {
	switch kind {
	case api.Stored:
		return "STORED"
	case api.NotStored:
		return "NOT_STORED"
	case api.Exists:
		return "EXISTS"
	case api.NotFound:
		return "NOT_FOUND"
	case api.Deleted:
		return "DELETED"
	case api.Touched:
		return "TOUCHED"
	case api.Fine:
		return "OK"
	case api.Reset:
		return "RESET"
	}
	return ""
}

// codes are those of a meta verb's lines.
func codes(verb int) []string {
	switch verb {
	case api.MetaGet:
		return []string{"HD", codeValue, codeMiss}
	case api.MetaSet:
		return []string{"HD", "NS", "EX", "NF"}
	case api.MetaDelete:
		return []string{"HD", "EX", "NF"}
	case api.MetaArith:
		return []string{"HD", codeValue, "NF", "NS", "EX"}
	case api.MetaNoop:
		return []string{codeNoop}
	}
	return nil
}

// standsAlone: has a code no words behind it?
func standsAlone(code string) bool { return code == codeMiss || code == codeNoop }

// tellsToken: do a verb's lines of values have the token?
func tellsToken(verb int) bool { return verb == api.Gets || verb == api.Gats }
