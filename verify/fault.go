package verify

import (
	"errors"
	"strconv"

	"swage/api"
)

// fault wraps a cause by the pc at which it was found.
type fault struct {
	pc    int
	cause error
}

func (f fault) Error() string {
	return "pc " + strconv.Itoa(f.pc) + ": " + f.cause.Error()
}

func (f fault) Unwrap() error {
	return f.cause
}

// tell takes an error apart for those outside: where it is, and its number.
func tell(err error) (int, api.Errno) {
	var at fault
	var number api.Errno
	if errors.As(err, &at) && errors.As(err, &number) {
		return at.pc, number
	}
	return 0, api.OK
}
