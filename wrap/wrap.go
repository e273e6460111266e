// Package wrap works on numbers of 32 bits: see DOC.md, chapter 1.
package wrap

import (
	"swage/api"
	"swage/number"
)

// Do tells what a op b is, and whether it is a trap: chapter 1, P1.2.
func Do(op int, a int, b int) (int, bool, api.Errno) {
	if !isOp(op) || !number.Is(a) || !number.Is(b) {
		return 0, false, api.ErrWrapOp
	}
	if b == 0 && divides(op) {
		return 0, true, api.OK
	}
	return Wrap(exact(op, a, b)), false, api.OK
}

// Wrap tells the number that differs from x by a multiple of 2^32: chapter 1, P1.1.
func Wrap(x int) int {
	return int(int32(x))
}

func isOp(op int) bool {
	switch op {
	case api.InsAdd, api.InsSub, api.InsMul, api.InsDiv, api.InsRem, api.InsEq, api.InsLt:
		return true
	}
	return false
}

func divides(op int) bool {
	return op == api.InsDiv || op == api.InsRem
}

// exact needs a and b to be numbers, so that nothing overflows the 64 bits of
// an int ahead of Wrap, and b not to be 0 where op divides.
func exact(op int, a int, b int) int {
	switch op {
	case api.InsRem:
		// A rest is a difference: a less b times the quotient.
		b *= a / b
		fallthrough
	case api.InsSub:
		// The least number's opposite is no number, but still an int.
		b = -b
		fallthrough
	case api.InsAdd:
		return a + b
	case api.InsMul:
		return a * b
	case api.InsDiv:
		return a / b
	case api.InsEq:
		return oneIf(a == b)
	case api.InsLt:
		return oneIf(a < b)
	}
	return 0
}

func oneIf(holds bool) int {
	if holds {
		return 1
	}
	return 0
}
