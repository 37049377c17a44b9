package warm

import (
	"slices"

	"granary/api"
)

// hand does acts on a disk, one behind the other, till one is refused.
type hand struct {
	disk *Disk
	err  error // of the one that was refused
}

// do does an act.
func (h *hand) do(act func() error) {
	if h.err == nil {
		h.err = act()
	}
}

// on does an act on a file.
func (h *hand) on(act func(name string) error, name string) {
	h.do(func() error { return act(name) })
}

// onOne does an act on a file, if that is there, and tells whether it is.
func (h *hand) onOne(act func(name string) error, name string) bool {
	there := h.disk.has(name)
	if there {
		h.on(act, name)
	}
	return there
}

// secure makes safe what is there, if anything is loose.
func (h *hand) secure(old head, stands bool) {
	if !h.disk.Loose() {
		return
	}
	if stands {
		h.onOne(h.disk.Sync, dataFile(old.which))
	}
	h.onOne(h.disk.Sync, metaFile)
	h.do(h.disk.SyncNames)
}

// tidy takes away what no picture needs.
func (h *hand) tidy(old head, stands bool) {
	done := h.onOne(h.disk.Remove, newFile)
	if stands && h.onOne(h.disk.Remove, dataFile(1-old.which)) {
		done = true
	}
	if done {
		h.do(h.disk.SyncNames)
	}
}

// write lays bytes down as a file, in the place of one of that name.
func (h *hand) write(name string, b []byte) {
	h.onOne(h.disk.Remove, name)
	h.on(h.disk.Create, name)
	for part := range slices.Chunk(b, api.MaxAppend) {
		h.do(func() error { return h.disk.Append(name, part) })
	}
	h.on(h.disk.Sync, name)
}

// leap lays the standing meta down anew, with the tokens passed over that a store may have issued since it was laid.
func (h *hand) leap(old head) {
	old.state.Issued += api.Leap
	h.write(newFile, old.bytes())
	h.turn()
}

// turn puts the new meta in the place of the old one.
func (h *hand) turn() {
	h.do(func() error { return h.disk.Rename(newFile, metaFile) })
	h.do(h.disk.SyncNames)
}
