package words

import "granary/api"

// noreply is the word with which a command asks for no answer.
const noreply = "noreply"

// row says which words stand behind a verb. Each of them is named by a letter:
//
//	K a key              T a time       L a time not below 0
//	F an item's flags    C a token      D a delta
//	N a block's length   V a level      M a flag of a meta command
//	W what is asked for  0 just a zero
type row struct {
	verb    int
	wants   string // the words that must stand
	may     string // what may stand behind them
	endless bool   // may's last one may stand any number of times
	quiet   bool   // noreply may stand
}

// grammar has the row of each verb by the verb's spelling.
type grammar map[string]row

// rows is the grammar.
func rows() grammar {
	return grammar{
		"get":       {verb: api.Get, wants: "K", may: "K", endless: true},
		"gets":      {verb: api.Gets, wants: "K", may: "K", endless: true},
		"gat":       {verb: api.Gat, wants: "TK", may: "K", endless: true},
		"gats":      {verb: api.Gats, wants: "TK", may: "K", endless: true},
		"set":       {verb: api.Set, wants: "KFTN", quiet: true},
		"add":       {verb: api.Add, wants: "KFTN", quiet: true},
		"replace":   {verb: api.Replace, wants: "KFTN", quiet: true},
		"append":    {verb: api.Append, wants: "KFTN", quiet: true},
		"prepend":   {verb: api.Prepend, wants: "KFTN", quiet: true},
		"cas":       {verb: api.Cas, wants: "KFTNC", quiet: true},
		"delete":    {verb: api.Delete, wants: "K", may: "0", quiet: true},
		"incr":      {verb: api.Incr, wants: "KD", quiet: true},
		"decr":      {verb: api.Decr, wants: "KD", quiet: true},
		"touch":     {verb: api.Touch, wants: "KT", quiet: true},
		"flush_all": {verb: api.FlushAll, may: "L", quiet: true},
		"version":   {verb: api.Version},
		"verbosity": {verb: api.Verbosity, wants: "V", quiet: true},
		"quit":      {verb: api.Quit},
		"stats":     {verb: api.Stats, may: "W"},
		"mg":        {verb: api.MetaGet, wants: "K", may: "M", endless: true},
		"ms":        {verb: api.MetaSet, wants: "KN", may: "M", endless: true},
		"md":        {verb: api.MetaDelete, wants: "K", may: "M", endless: true},
		"ma":        {verb: api.MetaArith, wants: "K", may: "M", endless: true},
		"mn":        {verb: api.MetaNoop},
	}
}

// of is the row of a verb, and its spelling.
func (g grammar) of(verb int) (string, row, bool) {
	for spelled, r := range g {
		if r.verb == verb {
			return spelled, r, true
		}
	}
	return "", row{}, false
}

// letter names the word of a place behind the verb, where the row takes one.
func (r row) letter(place int) byte {
	all := r.wants + r.may
	return all[min(place, len(all)-1)]
}

// takes: may so many words stand behind the verb?
func (r row) takes(n int) bool {
	return n >= len(r.wants) && (r.endless || n <= len(r.wants)+len(r.may))
}
