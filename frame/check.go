package frame

import (
	"swage/api"
	"swage/calls"
	"swage/number"
)

// areCalls tells whether each frame waits for the one behind it, up to the last
// one, which runs.
func areCalls(t calls.Table, frames []api.Frame) bool {
	last := len(frames) - 1
	for k, f := range frames {
		if k == last {
			return runs(t, f)
		}
		if !waitsFor(t, f, frames[k+1].Fn) {
			return false
		}
	}
	return true
}

func runs(t calls.Table, f api.Frame) bool {
	return t.Runs(f.Fn, f.Pc, len(f.Locals), len(f.Stack)) && isOfNumbers(f)
}

func waitsFor(t calls.Table, f api.Frame, callee int) bool {
	return t.Waits(f.Fn, f.Pc, len(f.Locals), len(f.Stack), callee) && isOfNumbers(f)
}

func isOfNumbers(f api.Frame) bool {
	return number.Are(f.Locals) && number.Are(f.Stack)
}
