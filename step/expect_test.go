package step_test

import (
	"slices"
	"testing"
	"unsafe"

	"swage/api"
	"swage/frame"
	"swage/step"
)

// expectStep holds what comes of a state against what it should be.
func expectStep(t *testing.T, p api.Program, s api.State, want api.State) {
	t.Helper()
	if got := expectOK(t, p, s); !same(got, want) {
		t.Errorf("P7.1: Step(%v, %v) is %v, want %v", p, s, got, want)
	}
}

// expectOK holds what is so of each step: another state that may be, without
// frames if it is done, and in memory of its own.
func expectOK(t *testing.T, p api.Program, s api.State) api.State {
	t.Helper()
	given := widened(s)
	got, err := step.Step(p, given)
	if err != api.OK || !frame.State(p, got) {
		t.Fatalf("P7.1: Step(%v, %v) is %v, %d", p, s, got, err)
	}
	if got.Done != api.OutNone && len(got.Frames) != 0 {
		t.Errorf("P7.1: %v is done, and has frames", got)
	}
	if !same(given, s) || !isWide(given) {
		t.Errorf("R4: Step(%v, %v) changed what was handed in, or its spare room: %v", p, s, given)
	}
	again, _ := step.Step(p, given)
	if !areApart(slices.Concat(pieces(given), pieces(got), pieces(again))) {
		t.Errorf("R4: what Step(%v, %v) answers shares memory", p, s)
	}
	return got
}

// expectNone holds that nothing but the error is told (R2).
func expectNone(t *testing.T, p api.Program, s api.State) {
	t.Helper()
	got, err := step.Step(p, s)
	if err != api.ErrStepForm || !same(got, api.State{}) {
		t.Errorf("P7.1: Step(%d functions, %d frames, fuel %d, done %d) is %v, %d, want none, %d",
			len(p.Funcs), len(s.Frames), s.Fuel, s.Done, got, err, api.ErrStepForm)
	}
}

// same takes an empty list and nil as one.
func same(a, b api.State) bool {
	return a.Fuel == b.Fuel && a.Done == b.Done && a.Value == b.Value && slices.Equal(a.Out, b.Out) &&
		slices.EqualFunc(a.Frames, b.Frames, func(f, g api.Frame) bool {
			return f.Fn == g.Fn && f.Pc == g.Pc && slices.Equal(f.Locals, g.Locals) && slices.Equal(f.Stack, g.Stack)
		})
}

func clone(s api.State) api.State {
	return mapped(s, slices.Clone[[]int])
}

// mapped is a state of its own, with each list of numbers changed so.
func mapped(s api.State, change func([]int) []int) api.State {
	s.Out = change(s.Out)
	s.Frames = slices.Clone(s.Frames)
	for k := range s.Frames {
		f := &s.Frames[k]
		f.Locals, f.Stack = change(f.Locals), change(f.Stack)
	}
	return s
}

// widened gives each list spare room, with 91, 92 or a frame 93 in it.
func widened(s api.State) api.State {
	s = mapped(s, func(list []int) []int {
		return append(append(make([]int, 0, len(list)+2), list...), 91, 92)[:len(list)]
	})
	n := len(s.Frames)
	s.Frames = append(append(make([]api.Frame, 0, n+1), s.Frames...), api.Frame{Fn: 93})[:n]
	return s
}

func isWide(s api.State) bool {
	wide := func(list []int) bool {
		return slices.Equal(list[len(list):len(list)+2], []int{91, 92})
	}
	for _, f := range s.Frames {
		if !wide(f.Locals) || !wide(f.Stack) {
			return false
		}
	}
	spare := s.Frames[len(s.Frames) : len(s.Frames)+1][0]
	return wide(s.Out) && spare.Fn == 93 && spare.Pc == 0 && spare.Locals == nil && spare.Stack == nil
}

// piece is the memory of a list, its spare room too.
type piece struct{ from, to uintptr }

func pieceOf[T any](list []T) piece {
	var item T
	from := uintptr(unsafe.Pointer(unsafe.SliceData(list)))
	return piece{from, from + uintptr(cap(list))*unsafe.Sizeof(item)}
}

func pieces(s api.State) []piece {
	all := []piece{pieceOf(s.Frames), pieceOf(s.Out)}
	for _, f := range s.Frames {
		all = append(all, pieceOf(f.Locals), pieceOf(f.Stack))
	}
	return all
}

func areApart(all []piece) bool {
	// Lists without room share nothing, wherever they are.
	all = slices.DeleteFunc(all, func(x piece) bool { return x.from == x.to })
	slices.SortFunc(all, func(x, y piece) int { return int(x.from) - int(y.from) })
	for k := 1; k < len(all); k++ {
		if all[k].from < all[k-1].to {
			return false
		}
	}
	return true
}
