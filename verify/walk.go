package verify

import (
	"swage/api"
	"swage/flow"
	"swage/ins"
)

// unknown is the height of a pc that was not come to.
const unknown = -1

// walker goes through a function's code, each pc once, and keeps how many stand
// on the stack ahead of those that it has come to.
type walker struct {
	funcs   []api.Func
	f       api.Func
	heights []int
	queue   []int
}

func walk(p api.Program, f api.Func) ([]int, error) {
	w := walker{funcs: p.Funcs, f: f, heights: make([]int, len(f.Code))}
	for pc := range w.heights {
		w.heights[pc] = unknown
	}
	w.come(0, 0)
	for len(w.queue) > 0 {
		pc := w.queue[0]
		w.queue = w.queue[1:]
		if !w.goOn(pc) {
			return nil, fault{pc, api.ErrVerifyStack}
		}
	}
	return w.heights, nil
}

// goOn tells whether the instruction at pc may be done and all that comes behind
// it may be come to.
func (w *walker) goOn(pc int) bool {
	height, ok := w.behind(pc)
	if !ok {
		return false
	}
	next, err := flow.Next(w.f, pc)
	for _, to := range next {
		if !w.come(to, height) {
			return false
		}
	}
	return err == api.OK
}

// behind tells how many stand on the stack when the instruction at pc is done.
func (w *walker) behind(pc int) (int, bool) {
	i := w.f.Code[pc]
	args := 0
	if i.Kind == api.InsCall {
		args = w.funcs[i.A].Args
	}
	takes, puts, err := ins.Effect(i, args)
	left := w.heights[pc] - takes
	return left + puts, err == api.OK && left >= 0 && left+puts <= api.MaxStack
}

// come tells whether pc is come to as it was before, if it was.
func (w *walker) come(pc int, height int) bool {
	if w.heights[pc] == unknown {
		w.heights[pc] = height
		w.queue = append(w.queue, pc)
	}
	return w.heights[pc] == height
}
