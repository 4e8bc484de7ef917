package fsck

import (
	"errors"
	"strconv"

	"coppice/api"
)

// fault is what is wrong deep inside with what lies there.
type fault struct {
	block int       // that is none of the forest; none: it is in no block by itself
	why   api.Errno // what was told of it there
}

const none = -1

func (f fault) Error() string {
	if f.block == none {
		return f.why.Error()
	}
	return "block " + strconv.Itoa(f.block) + ": " + f.why.Error()
}

func (f fault) Unwrap() error { return f.why }

// wrapped is an error on its way up, with what was looked at when it was met.
type wrapped struct {
	what string
	no   int
	err  error
}

func (w wrapped) Error() string { return w.what + " " + strconv.Itoa(w.no) + ": " + w.err.Error() }

func (w wrapped) Unwrap() error { return w.err }

// corrupt is the answer of a call for which each fault is one and the same.
func corrupt(err error) api.Errno {
	var f fault
	if errors.As(err, &f) {
		return api.ErrCorrupt
	}
	return errno(err)
}

// errno is what was told deep inside; OK, if there is no error.
func errno(err error) api.Errno {
	var e api.Errno
	errors.As(err, &e)
	return e
}
