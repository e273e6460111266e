// Package calls tells where the calls of a verified program may be, for the
// layers that hold frames, and frames to be built, against it.
package calls

import (
	"swage/api"
	"swage/verify"
)

// Table is the functions of a verified program, and of each one the heights that
// layer 5 tells by pc.
type Table struct {
	funcs   []api.Func
	heights [][]int
}

// Of tells false, if p is not verified: one of its functions has a fault, or
// there is none.
func Of(p api.Program) (Table, bool) {
	t := Table{funcs: p.Funcs}
	for fn := range p.Funcs {
		heights, _, err := verify.Heights(p, fn)
		if err != api.OK {
			return Table{}, false
		}
		t.heights = append(t.heights, heights)
	}
	return t, len(t.heights) > 0
}

// IsFunc tells whether there is such a function.
func (t Table) IsFunc(fn int) bool {
	return fn >= 0 && fn < len(t.funcs)
}

// Func needs fn to be a function. What it tells is the program's own.
func (t Table) Func(fn int) api.Func {
	return t.funcs[fn]
}

// Height tells how many stand on the stack ahead of pc, or false of what is not
// reached, or not there.
func (t Table) Height(fn int, pc int) (int, bool) {
	if !t.IsFunc(fn) || pc < 0 || pc >= len(t.heights[fn]) || t.heights[fn][pc] < 0 {
		return 0, false
	}
	return t.heights[fn][pc], true
}

// Runs tells whether a call with so many locals, and so many on its stack, may
// be about to do what is at pc.
func (t Table) Runs(fn int, pc int, locals int, stack int) bool {
	height, ok := t.Height(fn, pc)
	return ok && locals == t.funcs[fn].Locals && stack == height
}

// Waits tells whether such a call may go on at pc when one of callee has come
// back: one less is on its stack, the value that is to come.
func (t Table) Waits(fn int, pc int, locals int, stack int, callee int) bool {
	return t.Runs(fn, pc, locals, stack+1) && t.IsCall(fn, pc-1, callee)
}

// IsCall tells whether there is a reached call of callee at pc.
func (t Table) IsCall(fn int, pc int, callee int) bool {
	_, ok := t.Height(fn, pc)
	return ok && t.funcs[fn].Code[pc] == api.Ins{Kind: api.InsCall, A: callee}
}
