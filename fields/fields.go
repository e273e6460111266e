// Package fields tells which fields a kind of register code has: the table of
// chapter 10, for the layers that go through such code.
package fields

import (
	"swage/api"
)

// Sort is what a field holds.
type Sort int

// The sorts. What a kind doesn't have holds nothing, and is 0.
const (
	Nothing Sort = iota
	Register
	Number
	Operation
	Place
	Function
	Meta
	// Turn is what an IrGuard holds beside its K: 0, or 1, if it is turned round.
	Turn
)

// Fields are an instruction's, by their names in api.Ir. Of Args each one is
// of that sort.
type Fields struct {
	R, A, B, K, Args, Meta Sort
}

// Of tells the fields of a kind, or false, if there is none of that number.
func Of(kind int) (Fields, bool) {
	var f Fields
	switch kind {
	case api.IrNop, api.IrDeep:
	case api.IrConst:
		f.R, f.K = Register, Number
	case api.IrCall:
		f.R, f.K, f.Args = Register, Function, Register
	case api.IrZero:
		f.A = Register
		fallthrough
	case api.IrJump:
		f.K = Place
	case api.IrGuard:
		f.A, f.B, f.K = Register, Turn, Number
		fallthrough
	case api.IrPoll:
		f.Meta = Meta
	case api.IrBin:
		f.B, f.K = Register, Operation
		fallthrough
	case api.IrMove:
		f.R = Register
		fallthrough
	case api.IrPrint, api.IrRet:
		f.A = Register
	default:
		return Fields{}, false
	}
	return f, true
}
