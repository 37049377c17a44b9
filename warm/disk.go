package warm

import (
	"maps"
	"slices"

	"granary/api"
)

// Disk is a stand-in for a disk. A file that no name, no safe name and no change leads to is out of reach for ever, and nothing holds it any more.
type Disk struct {
	space   int
	acts    int // how many were begun
	created int // how many files were
	power   bool
	plan    map[int]api.Fault // by the number of the act on which each bears
	names   names
	safe    names    // as they were when they were made safe last
	changes []change // what was done to them since
}

// NewDisk makes an empty disk.
func NewDisk(space int) (*Disk, error) {
	if space < 0 || space > api.MaxSpace {
		return nil, refusal("newdisk", "", api.ErrArg)
	}
	return &Disk{space: space, power: true, names: names{}, safe: names{}}, nil
}

// Create makes an empty file.
func (d *Disk) Create(name string) error {
	return d.act("create", name, func() api.Errno { return d.create(name) })
}

// Append lays bytes behind a file.
func (d *Disk) Append(name string, p []byte) error {
	f := d.begin()
	if f.Kind == api.Tear {
		// A torn one is done with fewer bytes, and refused behind that.
		p, f.Kind = p[:within(f.Part, len(p))], api.Behind
	}
	return refusal("append", name, d.bear(f, func() api.Errno { return d.add(name, p) }))
}

// Sync makes a file's bytes safe.
func (d *Disk) Sync(name string) error {
	return d.act("sync", name, func() api.Errno {
		f, e := d.find(name)
		if e == api.OK {
			f.safe = len(f.bytes)
		}
		return e
	})
}

// Rename gives a file another name.
func (d *Disk) Rename(from, to string) error {
	return d.act("rename", from, func() api.Errno { return d.rename(from, to) })
}

// Remove takes a file away.
func (d *Disk) Remove(name string) error {
	return d.act("remove", name, func() api.Errno {
		_, e := d.find(name)
		if e == api.OK {
			d.change(change{from: name})
		}
		return e
	})
}

// SyncNames makes the names safe.
func (d *Disk) SyncNames() error {
	return d.act("syncnames", "", func() api.Errno {
		d.settle(len(d.changes))
		return api.OK
	})
}

// Read tells a file's bytes.
func (d *Disk) Read(name string) ([]byte, error) {
	f, err := d.look(name)
	if err != nil {
		return nil, err
	}
	return slices.Clone(f.bytes), nil
}

// Names tells the files.
func (d *Disk) Names() []string {
	if !d.power {
		return nil
	}
	return slices.Sorted(maps.Keys(d.names))
}

// Loose: is anything not safe?
func (d *Disk) Loose() bool {
	if len(d.changes) > 0 {
		return true
	}
	for _, f := range d.names {
		if f.safe < len(f.bytes) {
			return true
		}
	}
	return false
}

// Acts is how many acts were begun.
func (d *Disk) Acts() int { return d.acts }

// Plan lays the faults that are to come.
func (d *Disk) Plan(faults ...api.Fault) {
	d.plan = map[int]api.Fault{}
	for _, f := range faults {
		// Of several that bear on one act it is the first that counts.
		if _, ok := d.plan[f.Step]; !ok {
			d.plan[f.Step] = f
		}
	}
}

// Power: is there power?
func (d *Disk) Power() bool { return d.power }

// Restart brings power back.
func (d *Disk) Restart(c api.Cut) {
	d.settle(within(c.Names, len(d.changes)))
	d.names = maps.Clone(d.safe)
	for _, f := range d.names {
		f.cut(c.Bytes)
	}
	d.power, d.plan = true, nil
}
