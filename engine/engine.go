// Package engine does instructions of register code in place, for those who do
// one, and for those who do many.
package engine

import (
	"swage/api"
	"swage/wrap"
)

// Do does i, which stands at a place, in regs: chapter 12, P12.1. It needs i to be
// an instruction of code that may be (layer 10), and regs to be that code's many
// numbers: so the registers that i names are there, and a place behind i is too,
// if it goes on.
func Do(i api.Ir, at int, regs []int, fuel int, depth int, stop bool) api.Exec {
	if fuel < i.Cost {
		return ended(api.ExecFuel, 0)
	}
	e := api.Exec{Kind: api.ExecNext, At: at + 1, Fuel: fuel - i.Cost}
	switch i.Kind {
	case api.IrMove:
		// What is in a register is set like a constant.
		i.K = regs[i.A]
		fallthrough
	case api.IrConst:
		regs[i.R] = i.K
	case api.IrBin:
		// There is no error: K is an operation, and whatever is in a register is a number.
		x, trap, _ := wrap.Do(i.K, regs[i.A], regs[i.B])
		if trap {
			return ended(api.ExecZero, e.Fuel)
		}
		regs[i.R] = x
	case api.IrZero:
		if regs[i.A] != 0 {
			break
		}
		// Of 0 it is a jump.
		fallthrough
	case api.IrJump:
		e.At = i.K
	case api.IrCall:
		e.Kind, e.Fn, e.Args = api.ExecCall, i.K, pick(regs, i.Args)
		// A call traps where there could be none.
		fallthrough
	case api.IrDeep:
		if depth == api.MaxDepth {
			return ended(api.ExecDepth, e.Fuel)
		}
	case api.IrPrint:
		e.Print, e.Value = true, regs[i.A]
	case api.IrRet:
		e = ended(api.ExecRet, e.Fuel)
		e.Value = regs[i.A]
	case api.IrGuard:
		if (regs[i.A] == i.K) != (i.B == 0) {
			return left(e.Fuel, i.Meta)
		}
	case api.IrPoll:
		if stop {
			e = left(e.Fuel, i.Meta)
		}
		e.Polled = true
	}
	return e
}

// ended goes on nowhere.
func ended(kind int, fuel int) api.Exec {
	return api.Exec{Kind: kind, Fuel: fuel}
}

func left(fuel int, meta int) api.Exec {
	return api.Exec{Kind: api.ExecDeopt, Fuel: fuel, Meta: meta}
}

// pick tells what is in some registers, in their row.
func pick(regs []int, which []int) []int {
	picked := make([]int, len(which))
	for k, r := range which {
		picked[k] = regs[r]
	}
	return picked
}
