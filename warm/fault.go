package warm

import (
	"errors"

	"granary/api"
)

// Fault is a refused call: which, on what, and why.
type Fault struct {
	Call, Name string
	Why        error
}

// Error is the fault's words. A fault that is nil tells what an empty one does.
func (f *Fault) Error() string {
	if f == nil {
		f = &Fault{}
	}
	text := f.Call
	if f.Name != "" {
		text += " " + f.Name
	}
	text += ": "
	if f.Why != nil {
		text += f.Why.Error()
	}
	return text
}

// Unwrap is why.
func (f *Fault) Unwrap() error {
	if f == nil {
		return nil
	}
	return f.Why
}

// refusal is a Fault of a number; nil, if nothing was refused.
func refusal(call, name string, why api.Errno) error {
	if why == api.OK {
		return nil
	}
	return &Fault{call, name, why}
}

// reason is the number that a refusal wraps.
func reason(err error) api.Errno {
	why := api.OK
	errors.As(err, &why)
	return why
}

// isMissing: was a call refused since nothing has that name?
func isMissing(err error) bool { return errors.Is(err, api.ErrMissing) }
