package pack

import (
	"errors"
	"strconv"

	"swage/api"
)

var (
	errForm = errors.New("may not be packed")
	errEnd  = errors.New("the bytes end ahead of the program")
)

// fault wraps a cause by the part of the program where it was found.
type fault struct {
	part  string
	cause error
}

func (f fault) Error() string {
	return f.part + ": " + f.cause.Error()
}

func (f fault) Unwrap() error {
	return f.cause
}

// numberOf tells by its cause which number an error has for those outside.
func numberOf(err error) api.Errno {
	if errors.Is(err, errForm) || errors.Is(err, errEnd) {
		return api.ErrPackForm
	}
	return api.OK
}

// each does n parts of one name, one by one, up to the first that has a fault.
func each(name string, n int, do func(k int) error) error {
	for k := range n {
		if err := do(k); err != nil {
			return fault{name + " " + strconv.Itoa(k), err}
		}
	}
	return nil
}
