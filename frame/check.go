package frame

import (
	"swage/api"
	"swage/number"
	"swage/verify"
)

// checker is what the frames of a verified program are held against: its
// functions, and of each one the heights that layer 5 tells by pc.
type checker struct {
	funcs   []api.Func
	heights [][]int
}

// checkerOf tells false, if p is not verified: one of its functions has a fault,
// or there is none.
func checkerOf(p api.Program) (checker, bool) {
	c := checker{funcs: p.Funcs}
	for fn := range p.Funcs {
		heights, _, err := verify.Heights(p, fn)
		if err != api.OK {
			return checker{}, false
		}
		c.heights = append(c.heights, heights)
	}
	return c, len(c.heights) > 0
}

// areCalls tells whether each frame waits for the one behind it, up to the last
// one, which runs.
func (c checker) areCalls(frames []api.Frame) bool {
	last := len(frames) - 1
	for k, f := range frames {
		if k == last {
			return c.mayBe(f, 0)
		}
		if !c.waitsFor(f, frames[k+1].Fn) {
			return false
		}
	}
	return true
}

// mayBe takes a Stack with so many less than there are ahead of Pc.
func (c checker) mayBe(f api.Frame, less int) bool {
	if !c.isReached(f.Fn, f.Pc) {
		return false
	}
	height := c.heights[f.Fn][f.Pc]
	return len(f.Locals) == c.funcs[f.Fn].Locals && len(f.Stack) == height-less &&
		number.Are(f.Locals) && number.Are(f.Stack)
}

// waitsFor tells whether f may be, with a call of fn not yet come back: one less
// is on its Stack, the value that is to come.
func (c checker) waitsFor(f api.Frame, fn int) bool {
	at := f.Pc - 1
	if !c.mayBe(f, 1) || !c.isReached(f.Fn, at) {
		return false
	}
	return c.funcs[f.Fn].Code[at] == api.Ins{Kind: api.InsCall, A: fn}
}

// isReached tells false of a function or a pc that there is not.
func (c checker) isReached(fn int, pc int) bool {
	if fn < 0 || fn >= len(c.heights) || pc < 0 || pc >= len(c.heights[fn]) {
		return false
	}
	return c.heights[fn][pc] >= 0
}
