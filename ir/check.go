package ir

import (
	"slices"

	"swage/api"
	"swage/calls"
	"swage/fields"
	"swage/number"
)

// checker is code that is held against where calls of its program may be.
type checker struct {
	calls.Table
	code api.Code
}

func (c checker) mayBe() bool {
	return c.IsFunc(c.code.Fn) && c.hasRegs() && c.ends() && c.areAll() &&
		!slices.ContainsFunc(c.code.Metas, func(m api.Meta) bool { return !c.isMeta(m) })
}

func (c checker) hasRegs() bool {
	locals := c.Func(c.code.Fn).Locals
	return c.code.Regs >= max(locals, 1) && c.code.Regs <= api.MaxRegs
}

// ends tells whether nothing that runs leaves the code at its end.
func (c checker) ends() bool {
	last := c.code.Code[len(c.code.Code)-1].Kind
	return last == api.IrJump || last == api.IrRet
}

func (c checker) areAll() bool {
	for at, i := range c.code.Code {
		if !c.isIr(i) || i.Cost < leastCost(at, i) {
			return false
		}
	}
	return true
}

func (c checker) isIr(i api.Ir) bool {
	f, ok := fields.Of(i.Kind)
	return ok && isBelow(i.Cost, api.MaxIr+1) && isBelow(i.Pc, api.MaxCode) &&
		c.holds(f.R, i.R) && c.holds(f.A, i.A) && c.holds(f.B, i.B) &&
		c.holds(f.K, i.K) && c.holds(f.Meta, i.Meta) && c.areArgs(f, i)
}

// leastCost is not 0 where a loop or what is told would else be had for nothing.
func leastCost(at int, i api.Ir) int {
	switch i.Kind {
	case api.IrJump, api.IrZero:
		if i.K > at {
			return 0
		}
		fallthrough
	case api.IrCall, api.IrPrint:
		return 1
	}
	return 0
}

// areArgs needs K to be what i's kind asks for.
func (c checker) areArgs(f fields.Fields, i api.Ir) bool {
	many := 0
	if f.K == fields.Function {
		many = c.Func(i.K).Args
	}
	return len(i.Args) == many &&
		!slices.ContainsFunc(i.Args, func(arg int) bool { return !c.holds(f.Args, arg) })
}

// holds tells whether x may stand in a field of that sort.
func (c checker) holds(sort fields.Sort, x int) bool {
	switch sort {
	case fields.Register:
		return isBelow(x, c.code.Regs)
	case fields.Number:
		return number.Is(x)
	case fields.Operation:
		return x >= api.InsAdd && x <= api.InsLt
	case fields.Place:
		return isBelow(x, len(c.code.Code))
	case fields.Function:
		return c.IsFunc(x)
	case fields.Meta:
		return isBelow(x, len(c.code.Metas))
	case fields.Turn:
		return isBelow(x, 2)
	}
	return x == 0
}
