package warm

import "granary/api"

// begin numbers an act that begins, and tells the fault that bears on it: a zero one, if none does.
func (d *Disk) begin() api.Fault {
	d.acts++
	return d.plan[d.acts]
}

// act does an act as the plan says.
func (d *Disk) act(call, name string, do func() api.Errno) error {
	return refusal(call, name, d.bear(d.begin(), do))
}

// bear does an act on which a fault bears.
func (d *Disk) bear(f api.Fault, do func() api.Errno) api.Errno {
	if !d.power {
		return api.ErrDown
	}
	switch f.Kind {
	case api.Ahead, api.Tear: // an Append, which alone can be torn, comes here with another kind
		return api.ErrIO
	case api.Room:
		return api.ErrSpace
	case api.Lose:
		d.power = false
		return api.ErrDown
	case api.Late:
		do()
		d.power = false
		return api.ErrDown
	case api.Behind:
		if e := do(); e != api.OK {
			return e
		}
		return api.ErrIO
	}
	return do()
}

// create is what Create does.
func (d *Disk) create(name string) api.Errno {
	if !isName(name) {
		return api.ErrName
	}
	if d.names[name] != nil {
		return api.ErrExists
	}
	d.change(change{to: name, made: &file{number: d.created}})
	d.created++
	return api.OK
}

// add is what Append does.
func (d *Disk) add(name string, p []byte) api.Errno {
	f, e := d.find(name)
	if e != api.OK {
		return e
	}
	n := min(len(p), d.room())
	f.bytes = append(f.bytes, p[:n]...)
	if n < len(p) {
		return api.ErrSpace
	}
	return api.OK
}

// rename is what Rename does.
func (d *Disk) rename(from, to string) api.Errno {
	if !isName(to) {
		return api.ErrName
	}
	_, e := d.find(from)
	if e == api.OK && from != to {
		d.change(change{from: from, to: to})
	}
	return e
}

// room is how many bytes more there may be. A restart may bring back files that were taken away, so that there are too many.
func (d *Disk) room() int {
	left := d.space
	for _, f := range d.names {
		left -= len(f.bytes)
	}
	return max(left, 0)
}
