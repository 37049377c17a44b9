package warm

import "granary/api"

// file is a row of bytes.
type file struct {
	number int // in the order of all that were created
	bytes  []byte
	safe   int // how many of the first ones are
}

// cut keeps the safe bytes, and of the loose ones so many as the list says under the file's number. What is kept is copied, so that nothing holds the rest.
func (f *file) cut(loose []int) {
	more := 0
	if f.number < len(loose) {
		more = within(loose[f.number], len(f.bytes)-f.safe)
	}
	kept := make([]byte, f.safe+more)
	copy(kept, f.bytes)
	f.bytes, f.safe = kept, len(kept)
}

// within is a number, brought between 0 and most.
func within(n, most int) int { return min(max(n, 0), most) }

// names tell which name names which file.
type names map[string]*file

// change is what is done to names: a file that was made has the name to; one that has the name from has the name to, or none.
type change struct {
	from, to string // no name is empty
	made     *file
}

// do does a change.
func (n names) do(c change) {
	f := c.made
	if c.from != "" {
		f = n[c.from]
		delete(n, c.from)
	}
	if c.to != "" {
		n[c.to] = f
	}
}

// isName: may this be a file's name?
func isName(text string) bool { return len(text) >= 1 && len(text) <= api.MaxFile }

// change does a change that is not safe yet.
func (d *Disk) change(c change) {
	d.names.do(c)
	d.changes = append(d.changes, c)
}

// settle makes the first so many changes safe, and forgets the others.
func (d *Disk) settle(n int) {
	for _, c := range d.changes[:n] {
		d.safe.do(c)
	}
	d.changes = nil
}

// find is the file of a name.
func (d *Disk) find(name string) (*file, api.Errno) {
	if !isName(name) {
		return nil, api.ErrName
	}
	f := d.names[name]
	if f == nil {
		return nil, api.ErrMissing
	}
	return f, api.OK
}

// look is the file that Read reads.
func (d *Disk) look(name string) (*file, error) {
	if !d.power {
		return nil, refusal("read", name, api.ErrDown)
	}
	f, e := d.find(name)
	return f, refusal("read", name, e)
}

// has: is there a file of that name? (With power.)
func (d *Disk) has(name string) bool {
	_, err := d.look(name)
	return !isMissing(err)
}
